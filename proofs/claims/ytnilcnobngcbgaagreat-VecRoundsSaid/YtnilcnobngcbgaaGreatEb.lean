/-
  vec.Take of a vector of ints.
-/
import Derived.Test.YtnilcnobngcbgaaGreatEa
namespace Go.Proofs.YtnilcnobngcbgaaGreat
open Go.RowKit
attribute [local go_sem ↓] Go.wp_at_zero Go.wp_at_succ

theorem mapped_at (l : List Int) (g : Int → Int) (j : Nat) (hj : j < l.length) : (i64s ((l.take j).map g ++ l.drop j))[j]? = some (.int .i64 (l.getD j 0)) := by
  have e : ((l.take j).map g).length = j := by simp; omega
  rw [show i64s ((l.take j).map g ++ l.drop j) = i64s ((l.take j).map g) ++ i64s (l.drop j) by simp [i64s], List.getElem?_append_right (by simp [i64s]; omega), show (i64s ((l.take j).map g)).length = j by simp [i64s]; omega, Nat.sub_self]
  simp only [i64s, List.getElem?_map, List.getElem?_drop, Nat.add_zero, List.getElem?_eq_getElem hj, Option.map_some]
  rw [List.getD_eq_getElem?_getD, List.getElem?_eq_getElem hj]
  rfl
theorem mapped_set (l : List Int) (g : Int → Int) (j : Nat) (hj : j < l.length) : (i64s ((l.take j).map g ++ l.drop j)).set j (.int .i64 (g (l.getD j 0))) = i64s ((l.take (j + 1)).map g ++ l.drop (j + 1)) := by
  have e : (i64s ((l.take j).map g)).length = j := by simp [i64s]; omega
  have hd : l.drop j = l[j] :: l.drop (j + 1) := List.drop_eq_getElem_cons hj
  have hg : l.getD j 0 = l[j] := by rw [List.getD_eq_getElem?_getD, List.getElem?_eq_getElem hj]; rfl
  have h1 : i64s ((l.take j).map g ++ l.drop j) = i64s ((l.take j).map g) ++ (.int .i64 l[j] :: i64s (l.drop (j + 1))) := by
    rw [hd]; simp only [i64s, List.map_append, List.map_cons]
  rw [h1, hg, List.set_append_right _ _ (by omega), e, Nat.sub_self, List.set_cons_zero, List.take_add_one, List.getElem?_eq_getElem hj]
  simp only [i64s, List.map_append, List.map_cons, List.map_nil, Option.toList_some, List.append_assoc, List.cons_append, List.nil_append]
set_option maxHeartbeats 8000000 in
set_option maxRecDepth 100000 in
theorem take_ints (n : Int) (m : Nat) (x : Vl) (w : World) (B : Nat) (nA : Option Addr) (nc : Nat) (sA : Option Addr) (sc : Nat) (lA : Option Addr) (lc : Nat)
    (hx : IntV x) (ht : x.t = 2) (hB : B ≤ w.heap.size) (vx : VB w B x nA nc sA sc lA lc) (hn : -65536 ≤ n ∧ n ≤ 65536) (hm : n.natAbs = m) :
    Calls Tryz.prog 14 #[.int .i64 n, .agg #[.int .i64 x.t, .slice nA x.n.length nc, .slice sA x.s.length sc, .slice lA x.l.length lc]] w (DoR (.ok (2, ((rowI (min n 0) m).map fun p => remI p (x.n.length : Int)).map (pickI x.n (-9223372036854775808)))) w) := by
  have hq := kindO_int hx
  have hcnt := fun w2 (hg : w.grownBy w2 none) => (count_d x.depth x w2 B nA nc sA sc lA lc (Nat.le_refl _) hx.tot (Nat.le_trans hB hg.size) (vx.gb hg hB)).mono (fun e w' h => (⟨h.1.trans (by rw [hx.count]), h.2⟩ : e = .returned (.int .i64 (x.n.length : Nat)) ∧ w2.grownBy w' none))
  obtain ⟨ps, hps⟩ : ∃ ps, ps = (rowI (min n 0) m).map fun p => remI p (x.n.length : Int) := ⟨_, rfl⟩
  have hpl : ps.length = m := by rw [hps]; simp [rowI_length]
  have hidx := fun w2 (gb : Nat) (hg : w.grownBy w2 none) (hr : Rd w2 w2.heap.size (some ⟨gb, 0, none⟩) (i64s ps)) => index_ints x ps w2 B nA nc sA sc lA lc (some ⟨gb, 0, none⟩) m hx ht (Nat.le_trans hB hg.size) (vx.gb hg hB) hr (by omega)
  obtain ⟨l, hl⟩ : ∃ l, l = rowI (min n 0) m := ⟨_, rfl⟩
  have hll : l.length = m := by rw [hl, rowI_length]
  have hrow := fun w2 => rowG_any (min n 0) (max n 0) m (by omega) (by omega) (by omega) w2
  rw [← hl] at hrow hps
  rw [← hl, ← hps]
  obtain ⟨rl, hrl⟩ : ∃ rl, rl = ps.map (pickI x.n (-9223372036854775808)) := ⟨_, rfl⟩
  rw [hpl, ht] at hidx
  rw [← hrl] at hidx ⊢
  rw [ht] at hq hcnt ⊢
  have HNX := hide hx.n
  have HB2 := hide (show m ≤ 65536 by omega)
  have HROW := hide hrow
  have HIDX := hide hidx
  have HCNT := hide hcnt
  have HPS := hide hps
  have HLL := hide hll
  have h13 : decide (65536 < n) = false := decide_eq_false (by omega)
  have h14 : decide (n < -65536) = false := decide_eq_false (by omega)
  obtain ⟨wa, hwa⟩ : ∃ wa, wa = (w.alloc (.cells #[.int .i64 2, .slice nA x.n.length nc, .slice sA x.s.length sc, .slice lA x.l.length lc] 26)).alloc (.cells #[.int .i64 0, .slice none 0 0, .slice none 0 0, .slice none 0 0] 26) := ⟨_, rfl⟩
  have bx : wa.heap[w.heap.size]? = some (.cells #[.int .i64 2, .slice nA x.n.length nc, .slice sA x.s.length sc, .slice lA x.l.length lc] 26 (0, 0)) := by rw [hwa]; exact (Below.heap_alloc _ _ _ (by rw [World.size_alloc]; omega)).trans (heap_alloc_new w _)
  have bz : wa.heap[w.heap.size + 1]? = some (.cells #[.int .i64 0, .slice none 0 0, .slice none 0 0, .slice none 0 0] 26 (0, 0)) := by rw [hwa]; have := heap_alloc_new (w.alloc (.cells #[.int .i64 2, .slice nA x.n.length nc, .slice sA x.s.length sc, .slice lA x.l.length lc] 26)) (.cells #[.int .i64 0, .slice none 0 0, .slice none 0 0, .slice none 0 0] 26); rwa [World.size_alloc] at this
  have HBX := hide bx
  have HBZ := hide bz
  have HG0 := hide (show w.grownBy wa none by rw [hwa]; exact gb_alloc (gb_alloc (gb_refl w none) _) _)
  have HWE := hide hwa
  have HQ := hide (show (kindO 2 x.s.length x.n.length == 2) = true by rw [hq]; rfl)
  have HGA := hide (gb_refl wa none)
  have HBXA := hide bx
  have HBZA := hide bz
  obtain ⟨c0, c1, c2, c3⟩ : C4 wa w.heap.size 0 (.int .i64 2) (.slice nA x.n.length nc) (.slice sA x.s.length sc) (.slice lA x.l.length lc) := ⟨by rw [blk_cell bx]; rfl, by rw [blk_cell bx]; rfl, by rw [blk_cell bx]; rfl, by rw [blk_cell bx]; rfl⟩
  clear bx bz hwa hx hB vx ht hq hcnt hpl hidx hrow hps hll hl hn hm hrl
  go_enter Tryz.func14, Tryz.ntmps14
  go_wp2_with fail
  rw [← HWE.out]
  go_wp2_with (first
    | (go_at_call 34; refine (isSeq_any _ _ _ _ _ _ _ _ _).mono ?_; rintro e w1 ⟨rfl, hg1⟩; have hqq := HQ.out; have HBXn := hide (blk_keep HBX.out hg1 (by simp)); have HBZn := hide (blk_keep HBZ.out hg1 (by simp)); clear HBX HBZ; have HBX := hide HBXn.out; have HBZ := hide HBZn.out; clear HBXn HBZn; (try clear c0 c1 c2 c3); obtain ⟨c0, c1, c2, c3⟩ : C4 w1 w.heap.size 0 (.int .i64 2) (.slice nA x.n.length nc) (.slice sA x.s.length sc) (.slice lA x.l.length lc) := (by have h := HBX.out; exact ⟨by rw [blk_cell h]; rfl, by rw [blk_cell h]; rfl, by rw [blk_cell h]; rfl, by rw [blk_cell h]; rfl⟩); have HGn := hide (gb_trans HGA.out hg1 (.inl rfl)); clear HGA; have HGA := hide HGn.out; clear HGn hg1)
    | (go_at_call 29; refine (HROW.out _).mono ?_; rintro e w2 ⟨rfl, hg1, ho⟩; have HO := hide ho; have HBXn := hide (blk_keep HBX.out hg1 (by simp)); have HBZn := hide (blk_keep HBZ.out hg1 (by simp)); clear HBX HBZ; have HBX := hide HBXn.out; have HBZ := hide HBZn.out; clear HBXn HBZn; (try clear c0 c1 c2 c3); obtain ⟨c0, c1, c2, c3⟩ : C4 w2 w.heap.size 0 (.int .i64 2) (.slice nA x.n.length nc) (.slice sA x.s.length sc) (.slice lA x.l.length lc) := (by have h := HBX.out; exact ⟨by rw [blk_cell h]; rfl, by rw [blk_cell h]; rfl, by rw [blk_cell h]; rfl, by rw [blk_cell h]; rfl⟩); have HGn := hide (gb_trans HGA.out hg1 (.inl rfl)); have HGB := hide (HGA.out.size); clear HGA; have HGA := hide HGn.out; clear HGn hg1 ho))
  obtain ⟨gb, hgb⟩ : ∃ gb, gb = w1.heap.size := ⟨_, rfl⟩
  rw [← hgb] at HO ⊢
  have HGB2 := hide (show wa.heap.size ≤ gb by rw [hgb]; exact HGB.out)
  have HO1 := hide (own_low HO.out HGB2.out)
  clear hgb HGB HO HROW HQ hqq h13 h14 HWE
  have HBX0 := hide (show wa.heap[w.heap.size]? = some (.cells #[.int .i64 2, .slice nA x.n.length nc, .slice sA x.s.length sc, .slice lA x.l.length lc] 26 (0, 0)) from HBXA.out)
  have HBZ0 := hide (show wa.heap[w.heap.size + 1]? = some (.cells #[.int .i64 0, .slice none 0 0, .slice none 0 0, .slice none 0 0] 26 (0, 0)) from HBZA.out)
  clear HBX HBZ c0 c1 c2 c3
  go_loopw [29] (fun i wr => ∃ j : Nat, i = .int .i64 (j : Int) ∧ j ≤ m ∧ wr.ownsRow wa.heap.size 2 1 (.slice (some ⟨gb, 0, none⟩) m m) m (i64s ((l.take j).map (fun p => remI p (x.n.length : Int)) ++ l.drop j)) ∧ wa.grownBy wr none) (fun i _ => m - (intOf i).toNat)
  case atStart => exact ⟨0, rfl, Nat.zero_le _, by simpa using HO1.out, HGA.out⟩
  case round =>
    obtain ⟨j, rfl, hj, how, hgr⟩ := hrel
    have hbx := blk_keep HBX0.out hgr (by simp)
    obtain ⟨c0, c1, c2, c3⟩ : C4 wr w.heap.size 0 (.int .i64 2) (.slice nA x.n.length nc) (.slice sA x.s.length sc) (.slice lA x.l.length lc) := ⟨by rw [blk_cell hbx]; rfl, by rw [blk_cell hbx]; rfl, by rw [blk_cell hbx]; rfl, by rw [blk_cell hbx]; rfl⟩
    have HGR := hide hgr
    by_cases hlt : j < m
    · have hlt1 : (j : Int) < (m : Int) := by omega
      have h6 : IntKind.i64.wrap ((j : Int) + 1) = ((j + 1 : Nat) : Int) := by rw [IntKind.wrap_i64]; have := HB2.out; omega
      have HJL := hide (show j < l.length by rw [HLL.out]; exact hlt)
      have HLT := hide hlt
      have c5 := how.cellAt j (by omega)
      rw [mapped_at l _ j HJL.out] at c5
      obtain ⟨p, hp⟩ : ∃ p, p = l.getD j 0 := ⟨_, rfl⟩
      rw [← hp] at c5
      have HP := hide hp
      have HOW := hide how
      have HNUM := hide (show Num64 (x.n.length : Int) from ⟨by omega, by have := HNX.out; omega⟩)
      clear hp how hgr hlt hj hbx
      go_wp2_with (first
        | (go_at_call 30; refine (HCNT.out _ (gb_trans HG0.out HGR.out (.inl rfl))).mono ?_; rintro e w3 ⟨rfl, hg3⟩; have HG3 := hide hg3; have HOW3 := hide (own_up HOW.out hg3); have z5 := HOW3.out.frozenAt j; have c5a := cell_gb c5 hg3; clear hg3)
        | (go_at_call 35; refine (rem_any _ _ HNUM.out _).mono ?_; rintro e w4 ⟨rfl, rfl⟩))
      go_roundw
      case rel =>
        have hlt := HLT.out
        refine ⟨j + 1, by go_num, by omega, ?_, gb_setCell (gb_trans HGR.out HG3.out (.inl rfl)) (.inr HGB2.out) _⟩
        have h1 := (HOW3.out.stored j (.int .i64 (remI p (x.n.length : Int)))).1
        have h2 := mapped_set l (fun p => remI p (x.n.length : Int)) j HJL.out
        rw [← HP.out] at h2
        rw [h2] at h1
        exact h1
      case measure =>
        have hlt := HLT.out
        simp [intOf]
        omega
    · have hlt1 : ¬ (j : Int) < (m : Int) := by omega
      obtain rfl : j = m := by omega
      have HOW := hide (show wr.ownsRow wa.heap.size 2 1 (.slice (some ⟨gb, 0, none⟩) j j) j (i64s ps) by rw [HPS.out]; rw [List.take_of_length_le (by rw [HLL.out]; exact Nat.le_refl _), List.drop_of_length_le (by rw [HLL.out]; exact Nat.le_refl _), List.append_nil] at how; exact how)
      have HRD := hide (Rd.of_own HOW.out)
      have HGW := hide (gb_trans HG0.out HGR.out (.inl rfl))
      have HBZ1 := hide (blk_keep HBZ0.out HGR.out (by simp))
      clear how hgr hlt1 hbx hlt hj
      go_wp2_with (go_at_call 18; refine (HIDX.out _ gb HGW.out HRD.out).mono ?_; rintro e w5 ⟨hg5, A, c, hlc, rfl, ho⟩; have HG5 := hide hg5; have HLC := hide hlc; have HO5 := hide ho; have hr2 := blk_keep HBZ1.out hg5 (by simp); have HR2 := hide hr2; have z0 := blk_frozen hr2 0; have z1 := blk_frozen hr2 1; have z2 := blk_frozen hr2 2; have z3 := blk_frozen hr2 3; have y0 : w5.cell? ⟨w.heap.size + 1, 0, none⟩ = some (.int .i64 0) := (by { rw [blk_cell hr2]; rfl }); have y1 : w5.cell? ⟨w.heap.size + 1, 1, none⟩ = some (.slice none 0 0) := (by { rw [blk_cell hr2]; rfl }); have y2 : w5.cell? ⟨w.heap.size + 1, 2, none⟩ = some (.slice none 0 0) := (by { rw [blk_cell hr2]; rfl }); have y3 : w5.cell? ⟨w.heap.size + 1, 3, none⟩ = some (.slice none 0 0) := (by { rw [blk_cell hr2]; rfl }); clear hg5 hlc ho hr2)
      have hb := put_four HR2.out (.int .i64 2) (.slice A rl.length c) (.slice none 0 0) (.slice none 0 0)
      have m0 : ((((w5.setCell ⟨w.heap.size + 1, 0, none⟩ (.int .i64 2)).setCell ⟨w.heap.size + 1, 1, none⟩ (.slice A rl.length c)).setCell ⟨w.heap.size + 1, 2, none⟩ (.slice none 0 0)).setCell ⟨w.heap.size + 1, 3, none⟩ (.slice none 0 0)).cell? ⟨w.heap.size + 1, 0, none⟩ = some (.int .i64 2) := (blk_cell hb 0).trans rfl
      have m1 : ((((w5.setCell ⟨w.heap.size + 1, 0, none⟩ (.int .i64 2)).setCell ⟨w.heap.size + 1, 1, none⟩ (.slice A rl.length c)).setCell ⟨w.heap.size + 1, 2, none⟩ (.slice none 0 0)).setCell ⟨w.heap.size + 1, 3, none⟩ (.slice none 0 0)).cell? ⟨w.heap.size + 1, 1, none⟩ = some (.slice A rl.length c) := (blk_cell hb 1).trans rfl
      have m2 : ((((w5.setCell ⟨w.heap.size + 1, 0, none⟩ (.int .i64 2)).setCell ⟨w.heap.size + 1, 1, none⟩ (.slice A rl.length c)).setCell ⟨w.heap.size + 1, 2, none⟩ (.slice none 0 0)).setCell ⟨w.heap.size + 1, 3, none⟩ (.slice none 0 0)).cell? ⟨w.heap.size + 1, 2, none⟩ = some (.slice none 0 0) := (blk_cell hb 2).trans rfl
      have m3 : ((((w5.setCell ⟨w.heap.size + 1, 0, none⟩ (.int .i64 2)).setCell ⟨w.heap.size + 1, 1, none⟩ (.slice A rl.length c)).setCell ⟨w.heap.size + 1, 2, none⟩ (.slice none 0 0)).setCell ⟨w.heap.size + 1, 3, none⟩ (.slice none 0 0)).cell? ⟨w.heap.size + 1, 3, none⟩ = some (.slice none 0 0) := (blk_cell hb 3).trans rfl
      have hon := own_low (HO5.out.kept (put_four_row w5 (w.heap.size + 1) (.int .i64 2) (.slice A rl.length c) (.slice none 0 0) (.slice none 0 0)) (.inr (own_ne HO5.out HR2.out (by decide)))) HGW.out.size
      exact bodyPost_ret (v := .tuple #[.agg #[.int .i64 2, .slice A rl.length c, .slice none 0 0, .slice none 0 0], .int .i64 0]) (by simp [results, Tryz.results14, go_sem, m0, m1, m2, m3]) rfl ⟨put_four_gb (gb_trans HGW.out HG5.out (.inl rfl)) (Nat.le_add_right _ 1) _ _ _ _, A, c, HLC.out, rfl, hon⟩

end Go.Proofs.YtnilcnobngcbgaaGreat
