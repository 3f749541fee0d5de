/-
  vec.Reverse of any vector or list.
-/
import Derived.Test.YtnilcnobngcbgaaGreatMc
import Derived.Test.YtnilcnobngcbgaaGreatMa
import Derived.Deep.RegionLaw

namespace Go.Proofs.YtnilcnobngcbgaaGreat
open Go.RowKit
attribute [local go_sem ↓] Go.wp_at_zero Go.wp_at_succ

theorem seqT.count {x : Vl} (h : seqT x.t) (ht : x.tot ≤ 1100000) : x.count ≤ 1100000 := by
  obtain ⟨l1, l2, l3, l4⟩ := Vl.lens x ht
  rw [Vl.count_def]
  rcases h with (h | h | h | h) | h | h
  · rw [if_pos (.inl h)]; exact l1
  · rw [if_pos (.inr (.inl h))]; exact l1
  · rw [if_pos (.inr (.inr (.inl h)))]; exact l1
  · rw [if_pos (.inr (.inr (.inr h)))]; exact l1
  · rw [if_neg (by omega), if_pos h]; exact l2
  · rw [if_neg (by omega), if_neg (by omega), if_pos h]; exact l3
set_option maxHeartbeats 8000000 in
set_option maxRecDepth 100000 in
theorem take_any (n : Int) (m : Nat) (x : Vl) (w : World) (B : Nat) (nA : Option Addr) (nc : Nat) (sA : Option Addr) (sc : Nat) (lA : Option Addr) (lc : Nat)
    (hs : seqT x.t) (htot : x.tot ≤ 1100000) (hB : B ≤ w.heap.size) (vx : VB w B x nA nc sA sc lA lc) (hn : -65536 ≤ n ∧ n ≤ 65536) (hm : n.natAbs = m) (htt : x.t = 0 → Vl.tots (((rowI (min n 0) m).map fun p => remI p (x.count : Int)).map (pickV x.l emp)) ≤ 1100000) :
    Calls Tryz.prog 14 #[.int .i64 n, .agg #[.int .i64 x.t, .slice nA x.n.length nc, .slice sA x.s.length sc, .slice lA x.l.length lc]] w (TupV (idxV x ((rowI (min n 0) m).map fun p => remI p (x.count : Int))) w) := by
  have hcc := hs.count htot
  have hq := seqT.kind (x := x) hs
  have hcnt := fun w2 (hg : w.grownBy w2 none) => count_d x.depth x w2 B nA nc sA sc lA lc (Nat.le_refl _) htot (Nat.le_trans hB hg.size) (vx.gb hg hB)
  obtain ⟨ps, hps⟩ : ∃ ps, ps = (rowI (min n 0) m).map fun p => remI p (x.count : Int) := ⟨_, rfl⟩
  have hpl : ps.length = m := by rw [hps]; simp [rowI_length]
  rw [← hps] at htt
  have hidx := fun w2 (gb : Nat) (hg : w.grownBy w2 none) (hr : Rd w2 w2.heap.size (some ⟨gb, 0, none⟩) (i64s ps)) => index_any x ps w2 B nA nc sA sc lA lc (some ⟨gb, 0, none⟩) m hs htt htot (Nat.le_trans hB hg.size) (vx.gb hg hB) hr (by omega)
  obtain ⟨l, hl⟩ : ∃ l, l = rowI (min n 0) m := ⟨_, rfl⟩
  have hll : l.length = m := by rw [hl, rowI_length]
  have hrow := fun w2 => rowG_any (min n 0) (max n 0) m (by omega) (by omega) (by omega) w2
  rw [← hps]
  rw [← hl] at hrow hps
  obtain ⟨rv, hrv⟩ : ∃ rv, rv = idxV x ps := ⟨_, rfl⟩
  rw [hpl] at hidx
  rw [← hrv] at hidx ⊢
  have HNX := hide hcc
  have HB2 := hide (show m ≤ 65536 by omega)
  have HROW := hide hrow
  have HIDX := hide hidx
  have HCNT := hide hcnt
  have HPS := hide hps
  have HLL := hide hll
  have HQ := hide hq
  have h13 : decide (65536 < n) = false := decide_eq_false (by omega)
  have h14 : decide (n < -65536) = false := decide_eq_false (by omega)
  obtain ⟨wa, hwa⟩ : ∃ wa, wa = (w.alloc (.cells #[.int .i64 x.t, .slice nA x.n.length nc, .slice sA x.s.length sc, .slice lA x.l.length lc] 26)).alloc (.cells #[.int .i64 0, .slice none 0 0, .slice none 0 0, .slice none 0 0] 26) := ⟨_, rfl⟩
  have bx : wa.heap[w.heap.size]? = some (.cells #[.int .i64 x.t, .slice nA x.n.length nc, .slice sA x.s.length sc, .slice lA x.l.length lc] 26 (0, 0)) := by rw [hwa]; exact (Below.heap_alloc _ _ _ (by rw [World.size_alloc]; omega)).trans (heap_alloc_new w _)
  have bz : wa.heap[w.heap.size + 1]? = some (.cells #[.int .i64 0, .slice none 0 0, .slice none 0 0, .slice none 0 0] 26 (0, 0)) := by rw [hwa]; have := heap_alloc_new (w.alloc (.cells #[.int .i64 x.t, .slice nA x.n.length nc, .slice sA x.s.length sc, .slice lA x.l.length lc] 26)) (.cells #[.int .i64 0, .slice none 0 0, .slice none 0 0, .slice none 0 0] 26); rwa [World.size_alloc] at this
  have HBX := hide bx
  have HBZ := hide bz
  have HG0 := hide (show w.grownBy wa none by rw [hwa]; exact gb_alloc (gb_alloc (gb_refl w none) _) _)
  have HWE := hide hwa
  have HGA := hide (gb_refl wa none)
  have HBXA := hide bx
  have HBZA := hide bz
  obtain ⟨c0, c1, c2, c3⟩ : C4 wa w.heap.size 0 (.int .i64 x.t) (.slice nA x.n.length nc) (.slice sA x.s.length sc) (.slice lA x.l.length lc) := ⟨by rw [blk_cell bx]; rfl, by rw [blk_cell bx]; rfl, by rw [blk_cell bx]; rfl, by rw [blk_cell bx]; rfl⟩
  clear bx bz hwa htot hs hB vx hq hcnt hpl hidx hrow hps hll hl hn hm hrv htt hcc
  generalize x.count = cn at *
  go_enter Tryz.func14, Tryz.ntmps14
  go_wp2_with fail
  rw [← HWE.out]
  go_wp2_with (first
    | (go_at_call 34; refine (isSeq_any _ _ _ _ _ _ _ _ _).mono ?_; rintro e w1 ⟨rfl, hg1⟩; have hqq := HQ.out; have HBXn := hide (blk_keep HBX.out hg1 (by simp)); have HBZn := hide (blk_keep HBZ.out hg1 (by simp)); clear HBX HBZ; have HBX := hide HBXn.out; have HBZ := hide HBZn.out; clear HBXn HBZn; (try clear c0 c1 c2 c3); obtain ⟨c0, c1, c2, c3⟩ : C4 w1 w.heap.size 0 (.int .i64 x.t) (.slice nA x.n.length nc) (.slice sA x.s.length sc) (.slice lA x.l.length lc) := (by have h := HBX.out; exact ⟨by rw [blk_cell h]; rfl, by rw [blk_cell h]; rfl, by rw [blk_cell h]; rfl, by rw [blk_cell h]; rfl⟩); have HGn := hide (gb_trans HGA.out hg1 (.inl rfl)); clear HGA; have HGA := hide HGn.out; clear HGn hg1)
    | (go_at_call 29; refine (HROW.out _).mono ?_; rintro e w2 ⟨rfl, hg1, ho⟩; have HO := hide ho; have HBXn := hide (blk_keep HBX.out hg1 (by simp)); have HBZn := hide (blk_keep HBZ.out hg1 (by simp)); clear HBX HBZ; have HBX := hide HBXn.out; have HBZ := hide HBZn.out; clear HBXn HBZn; (try clear c0 c1 c2 c3); obtain ⟨c0, c1, c2, c3⟩ : C4 w2 w.heap.size 0 (.int .i64 x.t) (.slice nA x.n.length nc) (.slice sA x.s.length sc) (.slice lA x.l.length lc) := (by have h := HBX.out; exact ⟨by rw [blk_cell h]; rfl, by rw [blk_cell h]; rfl, by rw [blk_cell h]; rfl, by rw [blk_cell h]; rfl⟩); have HGn := hide (gb_trans HGA.out hg1 (.inl rfl)); have HGB := hide (HGA.out.size); clear HGA; have HGA := hide HGn.out; clear HGn hg1 ho))
  obtain ⟨gb, hgb⟩ : ∃ gb, gb = w1.heap.size := ⟨_, rfl⟩
  rw [← hgb] at HO ⊢
  have HGB2 := hide (show wa.heap.size ≤ gb by rw [hgb]; exact HGB.out)
  have HO1 := hide (own_low HO.out HGB2.out)
  clear hgb HGB HO HROW HQ hqq h13 h14 HWE
  clear HBX HBZ c0 c1 c2 c3
  go_loopw [29] (fun i wr => ∃ j : Nat, i = .int .i64 (j : Int) ∧ j ≤ m ∧ wr.ownsRow wa.heap.size 2 1 (.slice (some ⟨gb, 0, none⟩) m m) m (i64s ((l.take j).map (fun p => remI p (cn : Int)) ++ l.drop j)) ∧ wa.grownBy wr none) (fun i _ => m - (intOf i).toNat)
  case atStart => exact ⟨0, rfl, Nat.zero_le _, by simpa using HO1.out, HGA.out⟩
  case round =>
    obtain ⟨j, rfl, hj, how, hgr⟩ := hrel
    have hbx := blk_keep HBXA.out hgr (by simp)
    obtain ⟨c0, c1, c2, c3⟩ : C4 wr w.heap.size 0 (.int .i64 x.t) (.slice nA x.n.length nc) (.slice sA x.s.length sc) (.slice lA x.l.length lc) := ⟨by rw [blk_cell hbx]; rfl, by rw [blk_cell hbx]; rfl, by rw [blk_cell hbx]; rfl, by rw [blk_cell hbx]; rfl⟩
    have HGR := hide hgr
    by_cases hlt : j < m
    · have hlt1 : (j : Int) < (m : Int) := by omega
      have h6 : IntKind.i64.wrap ((j : Int) + 1) = ((j + 1 : Nat) : Int) := by rw [IntKind.wrap_i64]; have := HB2.out; omega
      have HJL := hide (show j < l.length by rw [HLL.out]; exact hlt)
      have HLT := hide hlt
      have c5 := how.cellAt j (by omega)
      rw [mapped_at l _ j HJL.out] at c5
      obtain ⟨p, hp⟩ : ∃ p, p = l.getD j 0 := ⟨_, rfl⟩
      rw [← hp] at c5
      have HP := hide hp
      have HOW := hide how
      have HNUM := hide (show Num64 (cn : Int) from ⟨by omega, by have := HNX.out; omega⟩)
      clear hp how hgr hlt hj hbx
      go_wp2_with (first
        | (go_at_call 30; refine (HCNT.out _ (gb_trans HG0.out HGR.out (.inl rfl))).mono ?_; rintro e w3 ⟨rfl, hg3⟩; have HG3 := hide hg3; have HOW3 := hide (own_up HOW.out hg3); have z5 := HOW3.out.frozenAt j; have c5a := cell_gb c5 hg3; clear hg3)
        | (go_at_call 35; refine (rem_any _ _ HNUM.out _).mono ?_; rintro e w4 ⟨rfl, rfl⟩))
      go_roundw
      case rel =>
        have hlt := HLT.out
        refine ⟨j + 1, by go_num, by omega, ?_, gb_setCell (gb_trans HGR.out HG3.out (.inl rfl)) (.inr HGB2.out) _⟩
        have h1 := (HOW3.out.stored j (.int .i64 (remI p (cn : Int)))).1
        have h2 := mapped_set l (fun p => remI p (cn : Int)) j HJL.out
        rw [← HP.out] at h2
        rw [h2] at h1
        exact h1
      case measure =>
        have hlt := HLT.out
        simp [intOf]
        omega
    · have hlt1 : ¬ (j : Int) < (m : Int) := by omega
      obtain rfl : j = m := by omega
      have HOW := hide (show wr.ownsRow wa.heap.size 2 1 (.slice (some ⟨gb, 0, none⟩) j j) j (i64s ps) by rw [HPS.out]; rw [List.take_of_length_le (by rw [HLL.out]; exact Nat.le_refl _), List.drop_of_length_le (by rw [HLL.out]; exact Nat.le_refl _), List.append_nil] at how; exact how)
      have HRD := hide (Rd.of_own HOW.out)
      have HGW := hide (gb_trans HG0.out HGR.out (.inl rfl))
      have HBZ1 := hide (blk_keep HBZA.out HGR.out (by simp))
      clear how hgr hlt1 hbx hlt hj
      go_wp2_with (go_at_call 18; refine (HIDX.out _ gb HGW.out HRD.out).mono ?_; rintro e w5 ⟨iA, ic, jA, jc, kA, kc, f, rfl, ho, hn, hg5⟩; have HG5 := hide hg5; have HO5 := hide ho; have HN5 := hide hn; have hr2 := blk_keep HBZ1.out hg5 (by simp); have HR2 := hide hr2; have z0 := blk_frozen hr2 0; have z1 := blk_frozen hr2 1; have z2 := blk_frozen hr2 2; have z3 := blk_frozen hr2 3; have y0 : w5.cell? ⟨w.heap.size + 1, 0, none⟩ = some (.int .i64 0) := (by { rw [blk_cell hr2]; rfl }); have y1 : w5.cell? ⟨w.heap.size + 1, 1, none⟩ = some (.slice none 0 0) := (by { rw [blk_cell hr2]; rfl }); have y2 : w5.cell? ⟨w.heap.size + 1, 2, none⟩ = some (.slice none 0 0) := (by { rw [blk_cell hr2]; rfl }); have y3 : w5.cell? ⟨w.heap.size + 1, 3, none⟩ = some (.slice none 0 0) := (by { rw [blk_cell hr2]; rfl }); clear hg5 ho hn hr2)
      have hb := put_four HR2.out (.int .i64 rv.t) (.slice iA rv.n.length ic) (.slice jA rv.s.length jc) (.slice kA rv.l.length kc)
      have m0 : ((((w5.setCell ⟨w.heap.size + 1, 0, none⟩ (.int .i64 rv.t)).setCell ⟨w.heap.size + 1, 1, none⟩ (.slice iA rv.n.length ic)).setCell ⟨w.heap.size + 1, 2, none⟩ (.slice jA rv.s.length jc)).setCell ⟨w.heap.size + 1, 3, none⟩ (.slice kA rv.l.length kc)).cell? ⟨w.heap.size + 1, 0, none⟩ = some (.int .i64 rv.t) := (blk_cell hb 0).trans rfl
      have m1 : ((((w5.setCell ⟨w.heap.size + 1, 0, none⟩ (.int .i64 rv.t)).setCell ⟨w.heap.size + 1, 1, none⟩ (.slice iA rv.n.length ic)).setCell ⟨w.heap.size + 1, 2, none⟩ (.slice jA rv.s.length jc)).setCell ⟨w.heap.size + 1, 3, none⟩ (.slice kA rv.l.length kc)).cell? ⟨w.heap.size + 1, 1, none⟩ = some (.slice iA rv.n.length ic) := (blk_cell hb 1).trans rfl
      have m2 : ((((w5.setCell ⟨w.heap.size + 1, 0, none⟩ (.int .i64 rv.t)).setCell ⟨w.heap.size + 1, 1, none⟩ (.slice iA rv.n.length ic)).setCell ⟨w.heap.size + 1, 2, none⟩ (.slice jA rv.s.length jc)).setCell ⟨w.heap.size + 1, 3, none⟩ (.slice kA rv.l.length kc)).cell? ⟨w.heap.size + 1, 2, none⟩ = some (.slice jA rv.s.length jc) := (blk_cell hb 2).trans rfl
      have m3 : ((((w5.setCell ⟨w.heap.size + 1, 0, none⟩ (.int .i64 rv.t)).setCell ⟨w.heap.size + 1, 1, none⟩ (.slice iA rv.n.length ic)).setCell ⟨w.heap.size + 1, 2, none⟩ (.slice jA rv.s.length jc)).setCell ⟨w.heap.size + 1, 3, none⟩ (.slice kA rv.l.length kc)).cell? ⟨w.heap.size + 1, 3, none⟩ = some (.slice kA rv.l.length kc) := (blk_cell hb 3).trans rfl
      refine bodyPost_ret (v := .tuple #[.agg #[.int .i64 rv.t, .slice iA rv.n.length ic, .slice jA rv.s.length jc, .slice kA rv.l.length kc], .int .i64 0]) (by simp [results, Tryz.results14, go_sem, m0, m1, m2, m3]) rfl ?_
      have hsz := HGW.out.size
      have hsz2 := blk_lt HBZ1.out
      refine ⟨iA, ic, jA, jc, kA, kc, f, rfl, VOw.keep _ _ _ HO5.out fun b hm => put_four_other (by have := (HN5.out.2 b hm).1; omega) _ _ _ _, ⟨HN5.out.1, fun b hb => ?_⟩, put_four_gb (gb_trans HGW.out HG5.out (.inl rfl)) (Nat.le_add_right _ 1) _ _ _ _⟩
      have h2 := HN5.out.2 b hb
      refine ⟨by omega, ?_⟩
      simp [World.setCell]
      exact h2.2
end Go.Proofs.YtnilcnobngcbgaaGreat

namespace Go.Proofs.YtnilcnobngcbgaaGreat
open Go.RowKit
attribute [local go_sem ↓] Go.wp_at_zero Go.wp_at_succ

/-- A new value with an error of 0. -/
def TupF (base : Nat) (v : Vl) : Fct := fun x w => ∃ nA nc sA sc lA lc f, x = .tuple #[.agg #[.int .i64 v.t, .slice nA v.n.length nc, .slice sA v.s.length sc, .slice lA v.l.length lc], .int .i64 0] ∧ VOw w v [.int .i64 v.t, .slice nA v.n.length nc, .slice sA v.s.length sc, .slice lA v.l.length lc] f ∧ f.Nodup ∧ ∀ b ∈ f, base ≤ b
theorem TupF.up (base : Nat) (v : Vl) : (TupF base v).Up := by
  rintro x w w' ⟨nA, nc, sA, sc, lA, lc, f, h1, h2, h3, h4⟩ hg
  exact ⟨nA, nc, sA, sc, lA, lc, f, h1, h2.grow hg, h3, h4⟩
theorem TupF.of {base : Nat} {v : Vl} {w w' : World} {e : Ending} (hb : base ≤ w.heap.size) (h : TupV v w e w') : ∃ x, e = .returned x ∧ w.grownBy w' none ∧ TupF base v x w' := by
  obtain ⟨nA, nc, sA, sc, lA, lc, f, rfl, ho, hn, hg⟩ := h
  exact ⟨_, rfl, hg, nA, nc, sA, sc, lA, lc, f, rfl, ho, hn.1, fun b hb2 => Nat.le_trans hb (hn.2 b hb2).1⟩
section
attribute [-go_sem] Go.storeCells
set_option maxHeartbeats 8000000 in
set_option maxRecDepth 100000 in
theorem drop_any (n : Int) (m : Nat) (fi en : Int) (x : Vl) (w : World) (B : Nat) (nA : Option Addr) (nc : Nat) (sA : Option Addr) (sc : Nat) (lA : Option Addr) (lc : Nat)
    (hs : seqT x.t) (htot : x.tot ≤ 1100000) (hB : B ≤ w.heap.size) (vx : VB w B x nA nc sA sc lA lc) (hn : -1100000 ≤ n ∧ n ≤ 1100000) (hfi : max n 0 = fi) (hen : max ((x.count : Int) + min n 0) fi = en) (hm : en - fi = (m : Int)) (htt : x.t = 0 → Vl.tots ((rowI fi m).map (pickV x.l emp)) ≤ 1100000) :
    Calls Tryz.prog 16 #[.int .i64 n, .agg #[.int .i64 x.t, .slice nA x.n.length nc, .slice sA x.s.length sc, .slice lA x.l.length lc]] w (TupV (idxV x (rowI fi m)) w) := by
  have hcc := hs.count htot
  have hcnt := fun w2 (hg : w.grownBy w2 none) => count_d x.depth x w2 B nA nc sA sc lA lc (Nat.le_refl _) htot (Nat.le_trans hB hg.size) (vx.gb hg hB)
  obtain ⟨ps, hps⟩ : ∃ ps, ps = rowI fi m := ⟨_, rfl⟩
  have hpl : ps.length = m := by rw [hps]; simp [rowI_length]
  have hrow := fun w2 => row_any fi en m hm (by omega) (by omega) w2
  rw [← hps] at htt hrow ⊢
  have hidx := fun w2 (A : Option Addr) (c : Nat) (hg : w.grownBy w2 none) (hr : Rd w2 w2.heap.size A (i64s ps)) => index_any x ps w2 B nA nc sA sc lA lc A c hs htt htot (Nat.le_trans hB hg.size) (vx.gb hg hB) hr (by omega)
  obtain ⟨rv, hrv⟩ : ∃ rv, rv = idxV x ps := ⟨_, rfl⟩
  rw [← hrv] at hidx ⊢
  have h9 : IntKind.i64.wrap ((x.count : Int) + min n 0) = (x.count : Int) + min n 0 := by rw [IntKind.wrap_i64]; omega
  have HROW := hide hrow
  have HIDX := hide hidx
  have HCNT := hide hcnt
  obtain ⟨wa, hwa⟩ : ∃ wa, wa = (w.alloc (.cells #[.int .i64 x.t, .slice nA x.n.length nc, .slice sA x.s.length sc, .slice lA x.l.length lc] 26)).alloc (.cells #[.int .i64 0, .slice none 0 0, .slice none 0 0, .slice none 0 0] 26) := ⟨_, rfl⟩
  have bx : wa.heap[w.heap.size]? = some (.cells #[.int .i64 x.t, .slice nA x.n.length nc, .slice sA x.s.length sc, .slice lA x.l.length lc] 26 (0, 0)) := by rw [hwa]; exact (Below.heap_alloc _ _ _ (by rw [World.size_alloc]; omega)).trans (heap_alloc_new w _)
  have bz : wa.heap[w.heap.size + 1]? = some (.cells #[.int .i64 0, .slice none 0 0, .slice none 0 0, .slice none 0 0] 26 (0, 0)) := by rw [hwa]; have := heap_alloc_new (w.alloc (.cells #[.int .i64 x.t, .slice nA x.n.length nc, .slice sA x.s.length sc, .slice lA x.l.length lc] 26)) (.cells #[.int .i64 0, .slice none 0 0, .slice none 0 0, .slice none 0 0] 26); rwa [World.size_alloc] at this
  have HBX := hide bx
  have HBZ := hide bz
  have HG0 := hide (show w.grownBy wa none by rw [hwa]; exact gb_alloc (gb_alloc (gb_refl w none) _) _)
  have HWE := hide hwa
  have HGA := hide (gb_refl wa none)
  have HBXA := hide bx
  have HBZA := hide bz
  obtain ⟨c0, c1, c2, c3⟩ : C4 wa w.heap.size 0 (.int .i64 x.t) (.slice nA x.n.length nc) (.slice sA x.s.length sc) (.slice lA x.l.length lc) := ⟨by rw [blk_cell bx]; rfl, by rw [blk_cell bx]; rfl, by rw [blk_cell bx]; rfl, by rw [blk_cell bx]; rfl⟩
  have HSZ := hide (show wa.heap.size = w.heap.size + 2 by rw [hwa]; simp)
  clear bx bz hwa htot hs hB vx hcnt hidx hrow hps hrv htt hcc hpl hn hm
  generalize x.count = cn at *
  go_enter Tryz.func16, Tryz.ntmps16
  go_wp2_with fail
  rw [← HWE.out]
  go_wp2_with (go_at_call 30; refine (HCNT.out _ HG0.out).mono ?_; rintro e w1 ⟨rfl, hg1⟩; have HG1 := hide hg1; have HBXn := hide (blk_keep HBX.out hg1 (by simp)); have HBZn := hide (blk_keep HBZ.out hg1 (by simp)); clear HBX HBZ; have HBX := hide HBXn.out; have HBZ := hide HBZn.out; clear HBXn HBZn; (try clear c0 c1 c2 c3); obtain ⟨c0, c1, c2, c3⟩ : C4 w1 w.heap.size 0 (.int .i64 x.t) (.slice nA x.n.length nc) (.slice sA x.s.length sc) (.slice lA x.l.length lc) := (by have h := HBX.out; exact ⟨by rw [blk_cell h]; rfl, by rw [blk_cell h]; rfl, by rw [blk_cell h]; rfl, by rw [blk_cell h]; rfl⟩); clear hg1)
  have HC := hide (show C4 w1 w.heap.size 0 (.int .i64 x.t) (.slice nA x.n.length nc) (.slice sA x.s.length sc) (.slice lA x.l.length lc) from ⟨c0, c1, c2, c3⟩)
  have HGG := hide (gb_trans HG0.out HG1.out (.inl rfl))
  clear c0 c1 c2 c3 HWE h9 HGA

  clear hfi hen
  refine wp_region_facts' 7 (by kernel_rfl) (by kernel_rfl) ?_
  intro A O W L HA HO HW HL
  simp only [List.take_succ_cons, List.take_zero]
  have HS := hide (show A.tmps.size = 26 by rw [HA.out]; rfl)
  have HGW := hide (show w1.grownBy W none by rw [HW.out]; exact gb_drew (gb_refl w1 none))
  have A3 := hide (show A.eval (.tmp 3) = .pointer (some ⟨w.heap.size, 0, none⟩) by rw [HA.out]; rfl)
  have A7 := hide (show A.eval (.tmp 7) = .int .i64 fi by rw [HA.out]; rfl)
  have A8 := hide (show A.eval (.tmp 8) = .int .i64 en by rw [HA.out]; rfl)
  -- slot 19
  refine wpFacts_lit (.agg #[.int .i64 x.t, .slice nA x.n.length nc, .slice sA x.s.length sc, .slice lA x.l.length lc]) rfl ?_ ?_
  · intro a wq hw hl
    have e3 : a.tmps[3]?.getD undef = .pointer (some ⟨w.heap.size, 0, none⟩) := (hl 3 (by first | (simp [Op.operands]; done) | simp [Op.operands, Call.operands]) (by rw [HS.out]; decide)).trans A3.out
    obtain ⟨c0, c1, c2, c3⟩ := HC.out.gb (gb_trans HGW.out hw (.inl rfl))
    clear hl
    go_simp
  -- slot 20
  refine wpFacts_lit (.int .i64 fi) rfl ?_ ?_
  · intro a wq hw hl
    have e7 : a.tmps[7]?.getD undef = .int .i64 fi := (hl 7 (by first | (simp [Op.operands]; done) | simp [Op.operands, Call.operands]) (by rw [HS.out]; decide)).trans A7.out
    clear hl
    go_simp
  -- slot 21
  refine wpFacts_lit (.int .i64 en) rfl ?_ ?_
  · intro a wq hw hl
    have e8 : a.tmps[8]?.getD undef = .int .i64 en := (hl 8 (by first | (simp [Op.operands]; done) | simp [Op.operands, Call.operands]) (by rw [HS.out]; decide)).trans A8.out
    clear hl
    go_simp
  -- slot 22
  refine wpFacts_step (OwnIF 0 ps) rfl (OwnIF.up _ _) ?_ ?_
  · intro a wq hw hl
    have e20 : a.tmps[20]?.getD undef = .int .i64 fi := hl 20 (by first | (simp [Op.operands]; done) | simp [Op.operands, Call.operands]) (by rw [HS.out]; decide)
    have e21 : a.tmps[21]?.getD undef = .int .i64 en := hl 21 (by first | (simp [Op.operands]; done) | simp [Op.operands, Call.operands]) (by rw [HS.out]; decide)
    clear hl
    go_simp
    refine ⟨gb_refl _ none, (HROW.out _).mono fun _ _ h => ?_⟩
    obtain ⟨hg, A, c, h1, h2, h3⟩ := h
    exact ⟨_, h2, hg, A, c, h1, rfl, own_low h3 (Nat.zero_le _)⟩
  -- slot 23
  refine wpFacts_step (TupF (w.heap.size + 2) rv) rfl (TupF.up _ _) ?_ ?_
  · intro a wq hw hl
    have e19 : a.tmps[19]?.getD undef = .agg #[.int .i64 x.t, .slice nA x.n.length nc, .slice sA x.s.length sc, .slice lA x.l.length lc] := hl 19 (by first | (simp [Op.operands]; done) | simp [Op.operands, Call.operands]) (by rw [HS.out]; decide)
    have h22 : (OwnIF 0 ps) (a.tmps[22]?.getD undef) wq := hl 22 (by first | (simp [Op.operands]; done) | simp [Op.operands, Call.operands]) (by rw [HS.out]; decide)
    obtain ⟨rA, rc, h1, e22, h2⟩ := h22
    clear hl
    go_simp
    refine ⟨gb_refl _ none, (HIDX.out _ rA rc (gb_trans HGG.out (gb_trans HGW.out hw (.inl rfl)) (.inl rfl)) (Rd.of_own h2)).mono fun _ _ h => ?_⟩
    obtain ⟨x9, h1, h2, h3⟩ := TupF.of (base := w.heap.size + 2) (by have h5 := HSZ.out; have h6 := HG1.out.size; have h7 := ((gb_trans HGW.out hw (.inl rfl))).size; omega) h
    exact ⟨x9, h1, h2, h3⟩
  -- slot 24
  refine wpFacts_step (NewF (w.heap.size + 2) rv) rfl (NewF.up _ _) ?_ ?_
  · intro a wq hw hl
    have h23 : (TupF (w.heap.size + 2) rv) (a.tmps[23]?.getD undef) wq := hl 23 (by first | (simp [Op.operands]; done) | simp [Op.operands, Call.operands]) (by rw [HS.out]; decide)
    obtain ⟨nA9, nc9, sA9, sc9, lA9, lc9, f, e23, h2, h3, h4⟩ := h23
    clear hl
    go_simp
    exact ⟨gb_refl _ none, nA9, nc9, sA9, sc9, lA9, lc9, f, rfl, h2, h3, h4⟩
  -- slot 25
  refine wpFacts_lit (.int .i64 0) rfl ?_ ?_
  · intro a wq hw hl
    have h23 : (TupF (w.heap.size + 2) rv) (a.tmps[23]?.getD undef) wq := hl 23 (by first | (simp [Op.operands]; done) | simp [Op.operands, Call.operands]) (by rw [HS.out]; decide)
    obtain ⟨nA9, nc9, sA9, sc9, lA9, lc9, f, e23, _, _, _⟩ := h23
    clear hl
    go_simp
  refine HL.out _ (fun a' w5 hc => ?_)
  have h24 : (NewF (w.heap.size + 2) rv) (a'.eval (.tmp 24)) w5 := hc.fact 24 (by rw [HS.out]; decide)
  obtain ⟨nA9, nc9, sA9, sc9, lA9, lc9, f, e24, ho, hnd, hfb⟩ := h24
  have e25 : a'.eval (.tmp 25) = .int .i64 0 := hc.fact 25 (by rw [HS.out]; decide)
  have hgw5 := gb_trans HGW.out hc.grown (.inl rfl)
  have hfr := hc.frame [19, 20, 21, 22, 23, 24, 25, 5] (by rw [HO.out]; kernel_rfl)
  rw [hfr]
  clear hfr hc
  rw [HA.out]
  clear HA HO HL HW HS HGW A3 A7 A8
  clear A O W L
  simp only [List.drop_succ_cons, List.drop_zero, List.foldl_cons, List.foldl_nil, Act.put, List.setIfInBounds_toArray, List.set_cons_succ, List.set_cons_zero]
  rw [e24, e25]
  generalize a'.eval (.tmp 19) = x19
  generalize a'.eval (.tmp 20) = x20
  generalize a'.eval (.tmp 21) = x21
  generalize a'.eval (.tmp 22) = x22
  generalize a'.eval (.tmp 23) = x23
  generalize a'.eval (.tmp 5) = x5
  clear e24 e25
  clear a'
  have HG5 := hide (gb_trans HGG.out hgw5 (.inl rfl))
  have hbz := blk_keep HBZ.out hgw5 (by simp)
  have HZ := hide hbz
  have HO := hide ho
  have HND := hide hnd
  have HFB := hide hfb
  clear ho hnd hfb
  have hst := storeCells_row (P := Tryz.prog) (c' := #[.int .i64 rv.t, .slice nA9 rv.n.length nc9, .slice sA9 rv.s.length sc9, .slice lA9 rv.l.length lc9]) hbz info4 rfl (by simp [Value.oneCell'])
  clear hbz hgw5 HC HBX HBZ HG1 HGG HG0
  go_wp2_with fail
  have hrow := heap_setRow_at _ _ _ #[.int .i64 rv.t, .slice nA9 rv.n.length nc9, .slice sA9 rv.s.length sc9, .slice lA9 rv.l.length lc9] _ _ HZ.out
  have m0 := blk_cell hrow 0
  have m1 := blk_cell hrow 1
  have m2 := blk_cell hrow 2
  have m3 := blk_cell hrow 3
  simp only [List.getElem?_toArray, List.getElem?_cons_zero, List.getElem?_cons_succ] at m0 m1 m2 m3
  refine bodyPost_ret (v := .tuple #[.agg #[.int .i64 rv.t, .slice nA9 rv.n.length nc9, .slice sA9 rv.s.length sc9, .slice lA9 rv.l.length lc9], .int .i64 0]) (by simp [results, Tryz.results16, go_sem, m0, m1, m2, m3]) rfl ?_
  have hsz := HSZ.out
  exact TupV.row (v := rv) (base := w.heap.size + 2) (s := w.heap.size + 1) _ (by omega) (by omega) HG5.out HO.out HND.out HFB.out
end
end Go.Proofs.YtnilcnobngcbgaaGreat

namespace Go.Proofs.YtnilcnobngcbgaaGreat
open Go.RowKit
attribute [local go_sem ↓] Go.wp_at_zero Go.wp_at_succ

/-- The first j and the last j turned round. -/
def revJ (l : List Int) (j : Nat) : List Int := (List.range l.length).map fun i => if i < j ∨ l.length - j ≤ i then l.getD (l.length - 1 - i) 0 else l.getD i 0
theorem revJ_length (l : List Int) (j : Nat) : (revJ l j).length = l.length := by simp [revJ]
theorem revJ_at (l : List Int) (j i : Nat) (h : i < l.length) : (revJ l j)[i]? = some (if i < j ∨ l.length - j ≤ i then l.getD (l.length - 1 - i) 0 else l.getD i 0) := by
  simp [revJ, h]
theorem revJ_zero (l : List Int) : revJ l 0 = l := by
  apply List.ext_getElem?
  intro i
  by_cases h : i < l.length
  · rw [revJ_at l 0 i h, if_neg (by omega), List.getElem?_eq_getElem h, List.getD_eq_getElem?_getD, List.getElem?_eq_getElem h]; rfl
  · rw [List.getElem?_eq_none (by rw [revJ_length]; omega), List.getElem?_eq_none (by omega)]
theorem revJ_step (l : List Int) (j : Nat) (h : 2 * j + 1 < l.length) : ((i64s (revJ l j)).set j (.int .i64 (l.getD (l.length - 1 - j) 0))).set (l.length - 1 - j) (.int .i64 (l.getD j 0)) = i64s (revJ l (j + 1)) := by
  apply List.ext_getElem?
  intro i
  by_cases hi : i < l.length
  · have e : ∀ k, (i64s (revJ l k))[i]? = some (.int .i64 (if i < k ∨ l.length - k ≤ i then l.getD (l.length - 1 - i) 0 else l.getD i 0)) := fun k => by
      unfold i64s; rw [List.getElem?_map, revJ_at l k i hi]; rfl
    by_cases h1 : i = l.length - 1 - j
    · subst h1
      rw [List.getElem?_set_self (by simp [i64s, revJ_length]; omega), e, if_pos (by omega), show l.length - 1 - (l.length - 1 - j) = j by omega]
    · rw [List.getElem?_set_ne (by omega)]
      by_cases h2 : i = j
      · subst h2
        rw [List.getElem?_set_self (by simp [i64s, revJ_length]; omega), e, if_pos (by omega)]
      · rw [List.getElem?_set_ne (by omega), e, e]
        by_cases h3 : i < j ∨ l.length - j ≤ i
        · rw [if_pos h3, if_pos (by omega)]
        · rw [if_neg h3, if_neg (by omega)]
  · rw [List.getElem?_eq_none (by simp [i64s, revJ_length]; omega), List.getElem?_eq_none (by simp [i64s, revJ_length]; omega)]
theorem revJ_all (l : List Int) (j : Nat) (h : l.length ≤ 2 * j + 1) : revJ l j = l.reverse := by
  apply List.ext_getElem?
  intro i
  by_cases hi : i < l.length
  · rw [revJ_at l j i hi, List.getElem?_reverse hi, List.getElem?_eq_getElem (by omega)]
    by_cases h1 : i < j ∨ l.length - j ≤ i
    · rw [if_pos h1, List.getD_eq_getElem?_getD, List.getElem?_eq_getElem (by omega)]; rfl
    · rw [if_neg h1]
      have : l.length - 1 - i = i := by omega
      simp only [this]
      rw [List.getD_eq_getElem?_getD, List.getElem?_eq_getElem hi]; rfl
  · rw [List.getElem?_eq_none (by rw [revJ_length]; omega), List.getElem?_eq_none (by simp; omega)]
set_option maxHeartbeats 4000000 in
set_option maxRecDepth 100000 in
theorem reverse_row (l : List Int) (g base n : Nat) (w : World) (hn : l.length = n) (h1 : n ≤ 1100000) (ho : w.ownsRow base 2 1 (.slice (some ⟨g, 0, none⟩) n n) n (i64s l)) :
    Calls Tryz.prog 31 #[.slice (some ⟨g, 0, none⟩) n n] w fun e w' => e = .returned (.tuple #[]) ∧ w'.ownsRow base 2 1 (.slice (some ⟨g, 0, none⟩) n n) n (i64s l.reverse) ∧ w.grownBy w' (some g) := by
  have HO := hide ho
  have HN := hide hn
  have HL := hide h1
  have h5 : IntKind.i64.wrap ((n : Int) - 1) = (n : Int) - 1 := by rw [IntKind.wrap_i64]; omega
  clear ho hn h1
  go_enter Tryz.func31, Tryz.ntmps31
  go_wp2_with fail
  go_loopw [2, 3] (fun i k wr => ∃ j : Nat, i = .int .i64 (j : Int) ∧ k = .int .i64 ((n : Int) - 1 - (j : Int)) ∧ 2 * j ≤ n + 1 ∧ wr.ownsRow base 2 1 (.slice (some ⟨g, 0, none⟩) n n) n (i64s (revJ l j)) ∧ w.grownBy wr (some g)) (fun i _ _ => n - (intOf i).toNat)
  case atStart => exact ⟨0, rfl, by simp, by omega, by rw [revJ_zero]; exact HO.out, gb_refl w (some g)⟩
  case round =>
    obtain ⟨j, rfl, rfl, hj, how, hgr⟩ := hrel
    by_cases hlt : 2 * j + 1 < n
    · obtain ⟨k, hk⟩ : ∃ k : Nat, k = n - 1 - j := ⟨_, rfl⟩
      have hke : (n : Int) - 1 - (j : Int) = (k : Int) := by omega
      have HKE := hide hke
      have HK := hide hk
      rw [hke]
      have hlt1 : (j : Int) < (k : Int) := by omega
      have hjn : j < n := by omega
      have hkn : k < n := by omega
      have hji : (j : Int) < (n : Int) := by omega
      have hki : (k : Int) < (n : Int) := by omega
      have h6 : IntKind.i64.wrap ((j : Int) + 1) = ((j + 1 : Nat) : Int) := by rw [IntKind.wrap_i64]; have := HL.out; omega
      have h7 : IntKind.i64.wrap ((k : Int) - 1) = (k : Int) - 1 := by rw [IntKind.wrap_i64]; have := HL.out; omega
      have cj := how.cellAt j (by omega)
      have ck := how.cellAt k (by omega)
      have HNL := hide HN.out
      rw [show (i64s (revJ l j))[j]? = some (.int .i64 (l.getD j 0)) by unfold i64s; rw [List.getElem?_map, revJ_at l j j (by rw [HN.out]; exact hjn), if_neg (by have := HN.out; omega)]; rfl] at cj
      rw [show (i64s (revJ l j))[k]? = some (.int .i64 (l.getD k 0)) by unfold i64s; rw [List.getElem?_map, revJ_at l j k (by rw [HN.out]; exact hkn), if_neg (by have := HN.out; omega)]; rfl] at ck
      obtain ⟨x, hx⟩ : ∃ x, x = l.getD j 0 := ⟨_, rfl⟩
      obtain ⟨y, hy⟩ : ∃ y, y = l.getD k 0 := ⟨_, rfl⟩
      rw [← hx] at cj
      rw [← hy] at ck
      have zj := how.frozenAt j
      have zk := how.frozenAt k
      have how2 := (how.stored j (.int .i64 y)).1
      have zk2 := how2.frozenAt k
      have ck2 := how2.cellAt k (by omega)
      rw [List.getElem?_set_ne (by omega), show (i64s (revJ l j))[k]? = some (.int .i64 y) by rw [← how.cellAt k (by omega)]; exact ck] at ck2
      have HX := hide hx
      have HY := hide hy
      have HOW := hide how
      have HGR := hide hgr
      have HLT := hide hlt
      clear hx hy how how2 hgr hk hke hj hjn hkn hlt HN
      go_wp2_with fail
      go_region_law (fail)
      all_goals
        go_wp2_with fail
        go_roundw
        case rel =>
          have hlt := HLT.out
          have hnl := HNL.out
          have hk := HK.out
          have hgs : w.grownBy ((wr.setCell ⟨g, j, none⟩ (.int .i64 y)).setCell ⟨g, k, none⟩ (.int .i64 x)) (some g) := gb_setCell (gb_setCell HGR.out (.inl rfl) _) (.inl rfl) _
          refine ⟨j + 1, by go_num, by go_num, by omega, ?_, gb_drew hgs⟩
          have h8 := ((HOW.out.stored j (.int .i64 y)).1.stored k (.int .i64 x)).1
          have h9 := revJ_step l j (by omega)
          rw [show l.length - 1 - j = k by omega, ← HX.out, ← HY.out] at h9
          rw [h9] at h8
          exact h8
        case measure =>
          have hlt := HLT.out
          simp [intOf]
          omega
    · have hlt1 : ¬ (j : Int) < (n : Int) - 1 - (j : Int) := by omega
      have HRV := hide (show wr.ownsRow base 2 1 (.slice (some ⟨g, 0, none⟩) n n) n (i64s l.reverse) by rw [← revJ_all l j (by have := HN.out; omega)]; exact how)
      have HGR := hide hgr
      clear how hgr hj hlt
      go_wp2_with fail
      go_end0
      exact ⟨rfl, HRV.out, HGR.out⟩
end Go.Proofs.YtnilcnobngcbgaaGreat

namespace Go.Proofs.YtnilcnobngcbgaaGreat
open Go.RowKit
attribute [local go_sem ↓] Go.wp_at_zero Go.wp_at_succ

set_option maxHeartbeats 8000000 in
set_option maxRecDepth 100000 in
theorem reverse_any (x : Vl) (w : World) (B : Nat) (nA : Option Addr) (nc : Nat) (sA : Option Addr) (sc : Nat) (lA : Option Addr) (lc : Nat)
    (hs : seqT x.t) (htot : x.tot ≤ 1100000) (hB : B ≤ w.heap.size) (vx : VB w B x nA nc sA sc lA lc) (htt : x.t = 0 → Vl.tots ((rowI 0 x.count).reverse.map (pickV x.l emp)) ≤ 1100000) :
    Calls Tryz.prog 10 #[.agg #[.int .i64 x.t, .slice nA x.n.length nc, .slice sA x.s.length sc, .slice lA x.l.length lc]] w (TupV (idxV x (rowI 0 x.count).reverse) w) := by
  have hcc := hs.count htot
  have hcnt := fun w2 (hg : w.grownBy w2 none) => count_d x.depth x w2 B nA nc sA sc lA lc (Nat.le_refl _) htot (Nat.le_trans hB hg.size) (vx.gb hg hB)
  obtain ⟨m, hm⟩ : ∃ m, m = x.count := ⟨_, rfl⟩
  rw [← hm] at hcc hcnt htt ⊢
  obtain ⟨ps, hps⟩ : ∃ ps, ps = (rowI 0 m).reverse := ⟨_, rfl⟩
  have hpl : ps.length = m := by rw [hps]; simp [rowI_length]
  have hrow := fun w2 => rowG_any 0 (m : Int) m (by omega) hcc (by omega) w2
  rw [← hps] at htt ⊢
  have hidx := fun w2 (gb : Nat) (hg : w.grownBy w2 none) (hr : Rd w2 w2.heap.size (some ⟨gb, 0, none⟩) (i64s ps)) => index_any x ps w2 B nA nc sA sc lA lc (some ⟨gb, 0, none⟩) m hs htt htot (Nat.le_trans hB hg.size) (vx.gb hg hB) hr (by omega)
  obtain ⟨rv, hrv⟩ : ∃ rv, rv = idxV x ps := ⟨_, rfl⟩
  rw [hpl] at hidx
  rw [← hrv] at hidx ⊢
  have HROW := hide hrow
  have HIDX := hide hidx
  have HCNT := hide hcnt
  have HPS := hide hps
  have HCC := hide hcc
  obtain ⟨wa, hwa⟩ : ∃ wa, wa = (w.alloc (.cells #[.int .i64 x.t, .slice nA x.n.length nc, .slice sA x.s.length sc, .slice lA x.l.length lc] 26)).alloc (.cells #[.int .i64 0, .slice none 0 0, .slice none 0 0, .slice none 0 0] 26) := ⟨_, rfl⟩
  have bx : wa.heap[w.heap.size]? = some (.cells #[.int .i64 x.t, .slice nA x.n.length nc, .slice sA x.s.length sc, .slice lA x.l.length lc] 26 (0, 0)) := by rw [hwa]; exact (Below.heap_alloc _ _ _ (by rw [World.size_alloc]; omega)).trans (heap_alloc_new w _)
  have bz : wa.heap[w.heap.size + 1]? = some (.cells #[.int .i64 0, .slice none 0 0, .slice none 0 0, .slice none 0 0] 26 (0, 0)) := by rw [hwa]; have := heap_alloc_new (w.alloc (.cells #[.int .i64 x.t, .slice nA x.n.length nc, .slice sA x.s.length sc, .slice lA x.l.length lc] 26)) (.cells #[.int .i64 0, .slice none 0 0, .slice none 0 0, .slice none 0 0] 26); rwa [World.size_alloc] at this
  have HBX := hide bx
  have HBZ := hide bz
  have HG0 := hide (show w.grownBy wa none by rw [hwa]; exact gb_alloc (gb_alloc (gb_refl w none) _) _)
  have HWE := hide hwa
  have HGA := hide (gb_refl wa none)
  have HBXA := hide bx
  have HBZA := hide bz
  obtain ⟨c0, c1, c2, c3⟩ : C4 wa w.heap.size 0 (.int .i64 x.t) (.slice nA x.n.length nc) (.slice sA x.s.length sc) (.slice lA x.l.length lc) := ⟨by rw [blk_cell bx]; rfl, by rw [blk_cell bx]; rfl, by rw [blk_cell bx]; rfl, by rw [blk_cell bx]; rfl⟩
  clear bx bz hwa htot hs hB vx hcnt hidx hrow hps hrv htt hcc hpl hm
  go_enter Tryz.func10, Tryz.ntmps10
  go_wp2_with fail
  rw [← HWE.out]
  go_wp2_with (first
    | (go_at_call 30; refine (HCNT.out _ HG0.out).mono ?_; rintro e w1 ⟨rfl, hg1⟩; have HBXn := hide (blk_keep HBX.out hg1 (by simp)); have HBZn := hide (blk_keep HBZ.out hg1 (by simp)); clear HBX HBZ; have HBX := hide HBXn.out; have HBZ := hide HBZn.out; clear HBXn HBZn; (try clear c0 c1 c2 c3); obtain ⟨c0, c1, c2, c3⟩ : C4 w1 w.heap.size 0 (.int .i64 x.t) (.slice nA x.n.length nc) (.slice sA x.s.length sc) (.slice lA x.l.length lc) := (by have h := HBX.out; exact ⟨by rw [blk_cell h]; rfl, by rw [blk_cell h]; rfl, by rw [blk_cell h]; rfl, by rw [blk_cell h]; rfl⟩); have HGn := hide (gb_trans HGA.out hg1 (.inl rfl)); clear HGA; have HGA := hide HGn.out; clear HGn hg1)
    | (go_at_call 29; refine (HROW.out _).mono ?_; rintro e w2 ⟨rfl, hg1, ho⟩; have HO := hide ho; have HBXn := hide (blk_keep HBX.out hg1 (by simp)); have HBZn := hide (blk_keep HBZ.out hg1 (by simp)); clear HBX HBZ; have HBX := hide HBXn.out; have HBZ := hide HBZn.out; clear HBXn HBZn; (try clear c0 c1 c2 c3); obtain ⟨c0, c1, c2, c3⟩ : C4 w2 w.heap.size 0 (.int .i64 x.t) (.slice nA x.n.length nc) (.slice sA x.s.length sc) (.slice lA x.l.length lc) := (by have h := HBX.out; exact ⟨by rw [blk_cell h]; rfl, by rw [blk_cell h]; rfl, by rw [blk_cell h]; rfl, by rw [blk_cell h]; rfl⟩); have HGn := hide (gb_trans HGA.out hg1 (.inl rfl)); have HGB := hide (HGA.out.size); clear HGA; have HGA := hide HGn.out; clear HGn hg1 ho)
    | (go_at_call 31; refine (reverse_row _ _ _ _ _ (rowI_length 0 m) HCC.out HO.out).mono ?_; rintro e w3 ⟨rfl, ho, hg1⟩; have HOR := hide ho; have HGC := hide (gb_trans HGA.out hg1 (.inr (.inr ⟨_, rfl, HGB.out⟩))); clear HBX HBZ c0 c1 c2 c3; have HBX := hide (blk_keep HBXA.out HGC.out (by simp)); have HBZ1 := hide (blk_keep HBZA.out HGC.out (by simp)); have HGW := hide (gb_trans HG0.out HGC.out (.inl rfl)); have HRD := hide (Rd.of_own ho); obtain ⟨c0, c1, c2, c3⟩ : C4 w3 w.heap.size 0 (.int .i64 x.t) (.slice nA x.n.length nc) (.slice sA x.s.length sc) (.slice lA x.l.length lc) := (by have h := HBX.out; exact ⟨by rw [blk_cell h]; rfl, by rw [blk_cell h]; rfl, by rw [blk_cell h]; rfl, by rw [blk_cell h]; rfl⟩); clear ho hg1)
    | (go_at_call 18; refine (HIDX.out _ _ HGW.out (by rw [HPS.out]; exact HRD.out)).mono ?_; rintro e w5 ⟨iA, ic, jA, jc, kA, kc, f, rfl, ho, hn, hg5⟩; have HG5 := hide hg5; have HO5 := hide ho; have HN5 := hide hn; have hr2 := blk_keep HBZ1.out hg5 (by simp); have HR2 := hide hr2; have z0 := blk_frozen hr2 0; have z1 := blk_frozen hr2 1; have z2 := blk_frozen hr2 2; have z3 := blk_frozen hr2 3; have y0 : w5.cell? ⟨w.heap.size + 1, 0, none⟩ = some (.int .i64 0) := (by { rw [blk_cell hr2]; rfl }); have y1 : w5.cell? ⟨w.heap.size + 1, 1, none⟩ = some (.slice none 0 0) := (by { rw [blk_cell hr2]; rfl }); have y2 : w5.cell? ⟨w.heap.size + 1, 2, none⟩ = some (.slice none 0 0) := (by { rw [blk_cell hr2]; rfl }); have y3 : w5.cell? ⟨w.heap.size + 1, 3, none⟩ = some (.slice none 0 0) := (by { rw [blk_cell hr2]; rfl }); clear hg5 ho hn hr2))
  have hb := put_four HR2.out (.int .i64 rv.t) (.slice iA rv.n.length ic) (.slice jA rv.s.length jc) (.slice kA rv.l.length kc)
  have m0 : ((((w5.setCell ⟨w.heap.size + 1, 0, none⟩ (.int .i64 rv.t)).setCell ⟨w.heap.size + 1, 1, none⟩ (.slice iA rv.n.length ic)).setCell ⟨w.heap.size + 1, 2, none⟩ (.slice jA rv.s.length jc)).setCell ⟨w.heap.size + 1, 3, none⟩ (.slice kA rv.l.length kc)).cell? ⟨w.heap.size + 1, 0, none⟩ = some (.int .i64 rv.t) := (blk_cell hb 0).trans rfl
  have m1 : ((((w5.setCell ⟨w.heap.size + 1, 0, none⟩ (.int .i64 rv.t)).setCell ⟨w.heap.size + 1, 1, none⟩ (.slice iA rv.n.length ic)).setCell ⟨w.heap.size + 1, 2, none⟩ (.slice jA rv.s.length jc)).setCell ⟨w.heap.size + 1, 3, none⟩ (.slice kA rv.l.length kc)).cell? ⟨w.heap.size + 1, 1, none⟩ = some (.slice iA rv.n.length ic) := (blk_cell hb 1).trans rfl
  have m2 : ((((w5.setCell ⟨w.heap.size + 1, 0, none⟩ (.int .i64 rv.t)).setCell ⟨w.heap.size + 1, 1, none⟩ (.slice iA rv.n.length ic)).setCell ⟨w.heap.size + 1, 2, none⟩ (.slice jA rv.s.length jc)).setCell ⟨w.heap.size + 1, 3, none⟩ (.slice kA rv.l.length kc)).cell? ⟨w.heap.size + 1, 2, none⟩ = some (.slice jA rv.s.length jc) := (blk_cell hb 2).trans rfl
  have m3 : ((((w5.setCell ⟨w.heap.size + 1, 0, none⟩ (.int .i64 rv.t)).setCell ⟨w.heap.size + 1, 1, none⟩ (.slice iA rv.n.length ic)).setCell ⟨w.heap.size + 1, 2, none⟩ (.slice jA rv.s.length jc)).setCell ⟨w.heap.size + 1, 3, none⟩ (.slice kA rv.l.length kc)).cell? ⟨w.heap.size + 1, 3, none⟩ = some (.slice kA rv.l.length kc) := (blk_cell hb 3).trans rfl
  refine bodyPost_ret (v := .tuple #[.agg #[.int .i64 rv.t, .slice iA rv.n.length ic, .slice jA rv.s.length jc, .slice kA rv.l.length kc], .int .i64 0]) (by simp [results, Tryz.results10, go_sem, m0, m1, m2, m3]) rfl ?_
  have hsz := HGW.out.size
  have hsz2 := blk_lt HBZ1.out
  refine ⟨iA, ic, jA, jc, kA, kc, f, rfl, VOw.keep _ _ _ HO5.out fun b hm => put_four_other (by have := (HN5.out.2 b hm).1; omega) _ _ _ _, ⟨HN5.out.1, fun b hb => ?_⟩, put_four_gb (gb_trans HGW.out HG5.out (.inl rfl)) (Nat.le_add_right _ 1) _ _ _ _⟩
  have h2 := HN5.out.2 b hb
  refine ⟨by omega, ?_⟩
  simp [World.setCell]
  exact h2.2
end Go.Proofs.YtnilcnobngcbgaaGreat
