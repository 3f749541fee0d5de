/-
  The law's live (layer 8): it tells true.
-/
import Derived.Test.YtgepejnooghjbaaGreatQat
import Derived.Test.YtgepejnooghjbaaGreatQau
import Derived.Test.YtgepejnooghjbaaGreatQak
import Derived.Test.YtgepejnooghjbaaGreatQag

namespace Go.Proofs.YtgepejnooghjbaaGreat
open Go.RowKit
attribute [local go_sem ↓] Go.wp_at_zero Go.wp_at_succ

set_option maxHeartbeats 400000 in
theorem num8_any (n : Int) (w : World) : Calls Tryz.prog 11 #[.int .i64 n] w fun e w' => e = .returned (.int .i64 n) ∧ w = w' := by
  go_enter Tryz.func11, Tryz.ntmps11
  go_wp2_with fail
  go_ret
  exact ⟨rfl, rfl⟩
set_option maxHeartbeats 400000 in
theorem ints8_any (A : Option Addr) (n c : Nat) (w : World) : Calls Tryz.prog 14 #[.slice A n c] w fun e w' => e = .returned (.agg #[.int .i64 2, .slice A n c, .slice none 0 0, .slice none 0 0]) ∧ w.grownBy w' none := by
  go_enter Tryz.func14, Tryz.ntmps14
  go_wp2_with fail
  exact bodyPost_ret (v := .agg #[.int .i64 2, .slice A n c, .slice none 0 0, .slice none 0 0]) (by simp [results, Tryz.results14, go_sem]) rfl ⟨rfl, gb_alloc (gb_refl w none) _⟩
theorem ints8_vb {l : List Int} {w w' : World} {A : Option Addr} {c B : Nat} (hr : Rd w B A (i64s l)) (hlc : l.length ≤ c) (hB : B ≤ w.heap.size) (hg : w.grownBy w' none) : VB w' w'.heap.size (.mk 2 l [] []) A c none 0 none 0 :=
  ⟨(hr.grown hg hB (by simp)).more (Nat.le_trans hB hg.size), Rd.nil_, ⟨[], Rd.nil_, rfl⟩, hlc, Nat.le_refl _, Nat.le_refl _⟩
theorem ints_new8 (l : List Int) (cs : Array Value) (hcs : i64s l = cs.toList) (n : Nat) (hn : l.length = n) (w : World) :
    Calls Tryz.prog 14 #[.slice (some ⟨w.heap.size, 0, none⟩) n n] (w.alloc (.cells cs 2)) fun e w' => ∃ nA nc sA sc lA lc, e = .returned (.agg #[.int .i64 2, .slice nA n nc, .slice sA 0 sc, .slice lA 0 lc]) ∧ VB w' w'.heap.size (.mk 2 l [] []) nA nc sA sc lA lc ∧ w.grownBy w' none := by
  refine (ints8_any _ n n _).mono ?_
  rintro e w' ⟨he, hg⟩
  exact ⟨_, _, none, 0, none, 0, he, ints8_vb (rd_lit w cs _ _ hcs) (Nat.le_of_eq hn) (Nat.le_refl _) hg, gb_trans (gb_alloc (gb_refl w none) _) hg (.inl rfl)⟩
theorem i64_lits {l : List Int} (h : l.all (fun k => decide (-9223372036854775808 ≤ k) && decide (k ≤ 9223372036854775807)) = true) : ∀ k ∈ l, I64 k := by
  intro k hk
  have := List.all_eq_true.1 h k hk
  simp only [Bool.and_eq_true, decide_eq_true_eq] at this
  exact this
theorem lv1 : sumL [9223372036854775807, 1, (-9223372036854775808), (-1)] = 9223372036854775807 := by decide
theorem lv2 : (if nnI [(-1), (-2)] = 0 then (-9223372036854775808 : Int) else sumL [(-1), (-2)] / (nnI [(-1), (-2)] : Int)) = -2 := by decide
theorem lv3 : insUp (cfDn [2, 1, 2]) 0 (3 - 0 - 1) (placesL 3) = [0, 2, 1] := by decide
theorem lv4 : prefL [1, (-9223372036854775808), 2] = [1, 1, 3] := by decide
theorem lv5 : dltR [5, 7, 6] = .ok (2, [5, 2, -1]) := by rfl
theorem lv6 : ¬ (-9223372036854775807 ≤ sumL [9223372036854775807, 1] ∧ sumL [9223372036854775807, 1] ≤ 9223372036854775807) := by decide
theorem lv7 : ∀ k, k < ([1, (-9223372036854775808), 2] : List Int).length → -9223372036854775807 ≤ sumL (([1, (-9223372036854775808), 2] : List Int).take (k + 1)) ∧ sumL (([1, (-9223372036854775808), 2] : List Int).take (k + 1)) ≤ 9223372036854775807 := by decide
set_option maxHeartbeats 8000000 in
set_option maxRecDepth 100000 in
theorem live8_any (w : World) : Calls Tryz.prog 8 #[] w fun e w' => e = .returned (.bool true) ∧ w.grownBy w' none := by
  have HG0 := hide (gb_refl w none)
  go_enter Tryz.func8, Tryz.ntmps8
  go_wp2_with fail
  refine (ints_new8 [9223372036854775807, 1, (-9223372036854775808), (-1)] _ rfl 4 rfl _).mono ?_
  rintro e w1 ⟨nA1, nc1, sA1, sc1, lA1, lc1, rfl, hv1, hg1⟩
  have HGn := hide (gb_trans HG0.out hg1 (.inl rfl))
  clear HG0
  have HG0 := hide HGn.out
  clear HGn hg1
  have HV1 := hide hv1
  clear hv1
  go_wp2_with fail
  have CD := do_sum_ok [9223372036854775807, 1, (-9223372036854775808), (-1)] (i64_lits (by decide)) (by decide) _ _ nA1 nc1 sA1 sc1 lA1 lc1 (Nat.le_refl _) HV1.out (by decide)
  rw [lv1] at CD
  refine CD.mono ?_
  clear CD
  clear HV1
  rintro e w2 ⟨nA2, nc2, sA2, sc2, lA2, lc2, f, he, ho, _, hg2⟩
  obtain rfl : e = .returned (.tuple #[.agg #[.int .i64 (-2), .slice nA2 1 nc2, .slice sA2 0 sc2, .slice lA2 0 lc2], .int .i64 0]) := he
  have hv2 := ho.vb
  clear ho
  have HGn := hide (gb_trans HG0.out hg2 (.inl rfl))
  clear HG0
  have HG0 := hide HGn.out
  clear HGn hg2
  have HB2 := hide (BoxV.new hv2)
  clear hv2
  go_wp2_with fail
  obtain ⟨w3, hw3⟩ : ∃ w3, w3 = w2.alloc (.cells #[.int .i64 (-2), .slice nA2 1 nc2, .slice sA2 0 sc2, .slice lA2 0 lc2] 26) := ⟨_, rfl⟩
  have hg3 : w2.grownBy w3 none := by rw [hw3]; exact gb_alloc (gb_refl w2 none) _
  have HBA : Hid (BoxV w3 w2.heap.size (Vl.mk (-2) [9223372036854775807] [] [])) := hide (by rw [hw3]; exact HB2.out)
  clear HB2
  have HGn := hide (gb_trans HG0.out hg3 (.inl rfl))
  clear HG0
  have HG0 := hide HGn.out
  clear HGn hg3
  have hs3 : w2.heap.size + 1 = w3.heap.size := by rw [hw3, World.size_alloc]
  rw [← hw3]
  try rw [hs3]
  clear hw3 hs3
  refine (ints_new8 [(-1), (-2)] _ rfl 2 rfl _).mono ?_
  rintro e w4 ⟨nA4, nc4, sA4, sc4, lA4, lc4, rfl, hv4, hg4⟩
  have HBAn := hide (HBA.out.gb hg4)
  clear HBA
  have HBA := hide HBAn.out
  clear HBAn
  have HGn := hide (gb_trans HG0.out hg4 (.inl rfl))
  clear HG0
  have HG0 := hide HGn.out
  clear HGn hg4
  have HV4 := hide hv4
  clear hv4
  go_wp2_with fail
  have CD := do_avg [(-1), (-2)] (i64_lits (by decide)) (by decide) _ _ nA4 nc4 sA4 sc4 lA4 lc4 (Nat.le_refl _) HV4.out
  rw [lv2] at CD
  refine CD.mono ?_
  clear CD
  clear HV4
  rintro e w5 ⟨nA5, nc5, sA5, sc5, lA5, lc5, f, he, ho, _, hg5⟩
  obtain rfl : e = .returned (.tuple #[.agg #[.int .i64 (-2), .slice nA5 1 nc5, .slice sA5 0 sc5, .slice lA5 0 lc5], .int .i64 0]) := he
  have hv5 := ho.vb
  clear ho
  have HBAn := hide (HBA.out.gb hg5)
  clear HBA
  have HBA := hide HBAn.out
  clear HBAn
  have HGn := hide (gb_trans HG0.out hg5 (.inl rfl))
  clear HG0
  have HG0 := hide HGn.out
  clear HGn hg5
  have HB5 := hide (BoxV.new hv5)
  clear hv5
  go_wp2_with fail
  obtain ⟨w6, hw6⟩ : ∃ w6, w6 = w5.alloc (.cells #[.int .i64 (-2), .slice nA5 1 nc5, .slice sA5 0 sc5, .slice lA5 0 lc5] 26) := ⟨_, rfl⟩
  have hg6 : w5.grownBy w6 none := by rw [hw6]; exact gb_alloc (gb_refl w5 none) _
  have HBB : Hid (BoxV w6 w5.heap.size (Vl.mk (-2) [(-2)] [] [])) := hide (by rw [hw6]; exact HB5.out)
  clear HB5
  have HBAn := hide (HBA.out.gb hg6)
  clear HBA
  have HBA := hide HBAn.out
  clear HBAn
  have HGn := hide (gb_trans HG0.out hg6 (.inl rfl))
  clear HG0
  have HG0 := hide HGn.out
  clear HGn hg6
  have hs6 : w5.heap.size + 1 = w6.heap.size := by rw [hw6, World.size_alloc]
  rw [← hw6]
  try rw [hs6]
  clear hw6 hs6
  refine (ints_new8 [2, 1, 2] _ rfl 3 rfl _).mono ?_
  rintro e w7 ⟨nA7, nc7, sA7, sc7, lA7, lc7, rfl, hv7, hg7⟩
  have HBAn := hide (HBA.out.gb hg7)
  clear HBA
  have HBA := hide HBAn.out
  clear HBAn
  have HBBn := hide (HBB.out.gb hg7)
  clear HBB
  have HBB := hide HBBn.out
  clear HBBn
  have HGn := hide (gb_trans HG0.out hg7 (.inl rfl))
  clear HG0
  have HG0 := hide HGn.out
  clear HGn hg7
  have HV7 := hide hv7
  clear hv7
  go_wp2_with fail
  have CD := grade_dn [2, 1, 2] (by decide) _ _ nA7 nc7 sA7 sc7 lA7 lc7 (Nat.le_refl _) HV7.out
  rw [show (insUp (cfDn [2, 1, 2]) 0 (([2, 1, 2] : List Int).length - 0 - 1) (placesL ([2, 1, 2] : List Int).length)) = [0, 2, 1] from lv3] at CD
  refine CD.mono ?_
  clear CD
  clear HV7
  intro e w8 hd
  obtain ⟨nA8, nc8, rfl, hv8, hg8⟩ := DoR.lit 3 rfl hd
  clear hd
  have HBAn := hide (HBA.out.gb hg8)
  clear HBA
  have HBA := hide HBAn.out
  clear HBAn
  have HBBn := hide (HBB.out.gb hg8)
  clear HBB
  have HBB := hide HBBn.out
  clear HBBn
  have HGn := hide (gb_trans HG0.out hg8 (.inl rfl))
  clear HG0
  have HG0 := hide HGn.out
  clear HGn hg8
  have HB8 := hide (BoxV.new hv8)
  clear hv8
  go_wp2_with fail
  obtain ⟨w9, hw9⟩ : ∃ w9, w9 = w8.alloc (.cells #[.int .i64 2, .slice nA8 3 nc8, .slice none 0 0, .slice none 0 0] 26) := ⟨_, rfl⟩
  have hg9 : w8.grownBy w9 none := by rw [hw9]; exact gb_alloc (gb_refl w8 none) _
  have HBC : Hid (BoxV w9 w8.heap.size (Vl.mk (2) [0, 2, 1] [] [])) := hide (by rw [hw9]; exact HB8.out)
  clear HB8
  have HBAn := hide (HBA.out.gb hg9)
  clear HBA
  have HBA := hide HBAn.out
  clear HBAn
  have HBBn := hide (HBB.out.gb hg9)
  clear HBB
  have HBB := hide HBBn.out
  clear HBBn
  have HGn := hide (gb_trans HG0.out hg9 (.inl rfl))
  clear HG0
  have HG0 := hide HGn.out
  clear HGn hg9
  have hs9 : w8.heap.size + 1 = w9.heap.size := by rw [hw9, World.size_alloc]
  rw [← hw9]
  try rw [hs9]
  clear hw9 hs9
  refine (ints_new8 [1, (-9223372036854775808), 2] _ rfl 3 rfl _).mono ?_
  rintro e w10 ⟨nA10, nc10, sA10, sc10, lA10, lc10, rfl, hv10, hg10⟩
  have HBAn := hide (HBA.out.gb hg10)
  clear HBA
  have HBA := hide HBAn.out
  clear HBAn
  have HBBn := hide (HBB.out.gb hg10)
  clear HBB
  have HBB := hide HBBn.out
  clear HBBn
  have HBCn := hide (HBC.out.gb hg10)
  clear HBC
  have HBC := hide HBCn.out
  clear HBCn
  have HGn := hide (gb_trans HG0.out hg10 (.inl rfl))
  clear HG0
  have HG0 := hide HGn.out
  clear HGn hg10
  have HV10 := hide hv10
  clear hv10
  go_wp2_with fail
  have CD := sums_int [1, (-9223372036854775808), 2] (i64_lits (by decide)) (by decide) lv7 _ _ nA10 nc10 sA10 sc10 lA10 lc10 (Nat.le_refl _) HV10.out
  rw [lv4] at CD
  refine CD.mono ?_
  clear CD
  clear HV10
  intro e w11 hd
  obtain ⟨nA11, nc11, rfl, hv11, hg11⟩ := DoR.lit 3 rfl hd
  clear hd
  have HBAn := hide (HBA.out.gb hg11)
  clear HBA
  have HBA := hide HBAn.out
  clear HBAn
  have HBBn := hide (HBB.out.gb hg11)
  clear HBB
  have HBB := hide HBBn.out
  clear HBBn
  have HBCn := hide (HBC.out.gb hg11)
  clear HBC
  have HBC := hide HBCn.out
  clear HBCn
  have HGn := hide (gb_trans HG0.out hg11 (.inl rfl))
  clear HG0
  have HG0 := hide HGn.out
  clear HGn hg11
  have HB11 := hide (BoxV.new hv11)
  clear hv11
  go_wp2_with fail
  obtain ⟨w12, hw12⟩ : ∃ w12, w12 = w11.alloc (.cells #[.int .i64 2, .slice nA11 3 nc11, .slice none 0 0, .slice none 0 0] 26) := ⟨_, rfl⟩
  have hg12 : w11.grownBy w12 none := by rw [hw12]; exact gb_alloc (gb_refl w11 none) _
  have HBD : Hid (BoxV w12 w11.heap.size (Vl.mk (2) [1, 1, 3] [] [])) := hide (by rw [hw12]; exact HB11.out)
  clear HB11
  have HBAn := hide (HBA.out.gb hg12)
  clear HBA
  have HBA := hide HBAn.out
  clear HBAn
  have HBBn := hide (HBB.out.gb hg12)
  clear HBB
  have HBB := hide HBBn.out
  clear HBBn
  have HBCn := hide (HBC.out.gb hg12)
  clear HBC
  have HBC := hide HBCn.out
  clear HBCn
  have HGn := hide (gb_trans HG0.out hg12 (.inl rfl))
  clear HG0
  have HG0 := hide HGn.out
  clear HGn hg12
  have hs12 : w11.heap.size + 1 = w12.heap.size := by rw [hw12, World.size_alloc]
  rw [← hw12]
  try rw [hs12]
  clear hw12 hs12
  refine (ints_new8 [5, 7, 6] _ rfl 3 rfl _).mono ?_
  rintro e w13 ⟨nA13, nc13, sA13, sc13, lA13, lc13, rfl, hv13, hg13⟩
  have HBAn := hide (HBA.out.gb hg13)
  clear HBA
  have HBA := hide HBAn.out
  clear HBAn
  have HBBn := hide (HBB.out.gb hg13)
  clear HBB
  have HBB := hide HBBn.out
  clear HBBn
  have HBCn := hide (HBC.out.gb hg13)
  clear HBC
  have HBC := hide HBCn.out
  clear HBCn
  have HBDn := hide (HBD.out.gb hg13)
  clear HBD
  have HBD := hide HBDn.out
  clear HBDn
  have HGn := hide (gb_trans HG0.out hg13 (.inl rfl))
  clear HG0
  have HG0 := hide HGn.out
  clear HGn hg13
  have HV13 := hide hv13
  clear hv13
  go_wp2_with fail
  have CD := deltas_int [5, 7, 6] (i64_lits (by decide)) (by decide) _ _ nA13 nc13 sA13 sc13 lA13 lc13 (Nat.le_refl _) HV13.out
  rw [lv5] at CD
  refine CD.mono ?_
  clear CD
  clear HV13
  intro e w14 hd
  obtain ⟨nA14, nc14, rfl, hv14, hg14⟩ := DoR.lit 3 rfl hd
  clear hd
  have HBAn := hide (HBA.out.gb hg14)
  clear HBA
  have HBA := hide HBAn.out
  clear HBAn
  have HBBn := hide (HBB.out.gb hg14)
  clear HBB
  have HBB := hide HBBn.out
  clear HBBn
  have HBCn := hide (HBC.out.gb hg14)
  clear HBC
  have HBC := hide HBCn.out
  clear HBCn
  have HBDn := hide (HBD.out.gb hg14)
  clear HBD
  have HBD := hide HBDn.out
  clear HBDn
  have HGn := hide (gb_trans HG0.out hg14 (.inl rfl))
  clear HG0
  have HG0 := hide HGn.out
  clear HGn hg14
  have HB14 := hide (BoxV.new hv14)
  clear hv14
  go_wp2_with fail
  obtain ⟨w15, hw15⟩ : ∃ w15, w15 = w14.alloc (.cells #[.int .i64 2, .slice nA14 3 nc14, .slice none 0 0, .slice none 0 0] 26) := ⟨_, rfl⟩
  have hg15 : w14.grownBy w15 none := by rw [hw15]; exact gb_alloc (gb_refl w14 none) _
  have HBE : Hid (BoxV w15 w14.heap.size (Vl.mk (2) [5, 2, (-1)] [] [])) := hide (by rw [hw15]; exact HB14.out)
  clear HB14
  have HBAn := hide (HBA.out.gb hg15)
  clear HBA
  have HBA := hide HBAn.out
  clear HBAn
  have HBBn := hide (HBB.out.gb hg15)
  clear HBB
  have HBB := hide HBBn.out
  clear HBBn
  have HBCn := hide (HBC.out.gb hg15)
  clear HBC
  have HBC := hide HBCn.out
  clear HBCn
  have HBDn := hide (HBD.out.gb hg15)
  clear HBD
  have HBD := hide HBDn.out
  clear HBDn
  have HGn := hide (gb_trans HG0.out hg15 (.inl rfl))
  clear HG0
  have HG0 := hide HGn.out
  clear HGn hg15
  have hs15 : w14.heap.size + 1 = w15.heap.size := by rw [hw15, World.size_alloc]
  rw [← hw15]
  try rw [hs15]
  clear hw15 hs15
  refine (ints_new8 [9223372036854775807, 1] _ rfl 2 rfl _).mono ?_
  rintro e w16 ⟨nA16, nc16, sA16, sc16, lA16, lc16, rfl, hv16, hg16⟩
  have HBAn := hide (HBA.out.gb hg16)
  clear HBA
  have HBA := hide HBAn.out
  clear HBAn
  have HBBn := hide (HBB.out.gb hg16)
  clear HBB
  have HBB := hide HBBn.out
  clear HBBn
  have HBCn := hide (HBC.out.gb hg16)
  clear HBC
  have HBC := hide HBCn.out
  clear HBCn
  have HBDn := hide (HBD.out.gb hg16)
  clear HBD
  have HBD := hide HBDn.out
  clear HBDn
  have HBEn := hide (HBE.out.gb hg16)
  clear HBE
  have HBE := hide HBEn.out
  clear HBEn
  have HGn := hide (gb_trans HG0.out hg16 (.inl rfl))
  clear HG0
  have HG0 := hide HGn.out
  clear HGn hg16
  have HV16 := hide hv16
  clear hv16
  go_wp2_with fail
  have CD := do_sum_over [9223372036854775807, 1] (i64_lits (by decide)) (by decide) _ _ nA16 nc16 sA16 sc16 lA16 lc16 (Nat.le_refl _) HV16.out lv6
  refine CD.mono ?_
  clear CD
  clear HV16
  rintro e w17 ⟨rfl, hg17⟩
  have HBAn := hide (HBA.out.gb hg17)
  clear HBA
  have HBA := hide HBAn.out
  clear HBAn
  have HBBn := hide (HBB.out.gb hg17)
  clear HBB
  have HBB := hide HBBn.out
  clear HBBn
  have HBCn := hide (HBC.out.gb hg17)
  clear HBC
  have HBC := hide HBCn.out
  clear HBCn
  have HBDn := hide (HBD.out.gb hg17)
  clear HBD
  have HBD := hide HBDn.out
  clear HBDn
  have HBEn := hide (HBE.out.gb hg17)
  clear HBE
  have HBE := hide HBEn.out
  clear HBEn
  have HGn := hide (gb_trans HG0.out hg17 (.inl rfl))
  clear HG0
  have HG0 := hide HGn.out
  clear HGn hg17
  go_wp2_with fail
  obtain ⟨w18, hw18⟩ : ∃ w18, w18 = w17.alloc (.cells #[.int .i64 0, .slice none 0 0, .slice none 0 0, .slice none 0 0] 26) := ⟨_, rfl⟩
  have hg18 : w17.grownBy w18 none := by rw [hw18]; exact gb_alloc (gb_refl w17 none) _
  have HBAn := hide (HBA.out.gb hg18)
  clear HBA
  have HBA := hide HBAn.out
  clear HBAn
  have HBBn := hide (HBB.out.gb hg18)
  clear HBB
  have HBB := hide HBBn.out
  clear HBBn
  have HBCn := hide (HBC.out.gb hg18)
  clear HBC
  have HBC := hide HBCn.out
  clear HBCn
  have HBDn := hide (HBD.out.gb hg18)
  clear HBD
  have HBD := hide HBDn.out
  clear HBDn
  have HBEn := hide (HBE.out.gb hg18)
  clear HBE
  have HBE := hide HBEn.out
  clear HBEn
  have HGn := hide (gb_trans HG0.out hg18 (.inl rfl))
  clear HG0
  have HG0 := hide HGn.out
  clear HGn hg18
  have hs18 : w17.heap.size + 1 = w18.heap.size := by rw [hw18, World.size_alloc]
  rw [← hw18]
  try rw [hs18]
  clear hw18 hs18
  refine wp_region_facts' 50 (by kernel_rfl) (by kernel_rfl) ?_
  intro A O W L HA HO HW HL
  simp only [List.take_succ_cons, List.take_zero]
  have HS := hide (show A.tmps.size = 99 by rw [HA.out]; rfl)
  have HGW := hide (show w18.grownBy W none by rw [HW.out]; exact gb_drew (gb_refl w18 none))
  have A1 := hide (show A.eval (.tmp 1) = .pointer (some ⟨w2.heap.size, 0, none⟩) by rw [HA.out]; rfl)
  have A3 := hide (show A.eval (.tmp 3) = .pointer (some ⟨w5.heap.size, 0, none⟩) by rw [HA.out]; rfl)
  have A5 := hide (show A.eval (.tmp 5) = .pointer (some ⟨w8.heap.size, 0, none⟩) by rw [HA.out]; rfl)
  have A7 := hide (show A.eval (.tmp 7) = .pointer (some ⟨w11.heap.size, 0, none⟩) by rw [HA.out]; rfl)
  have A9 := hide (show A.eval (.tmp 9) = .pointer (some ⟨w14.heap.size, 0, none⟩) by rw [HA.out]; rfl)
  have A2 := hide (show A.eval (.tmp 2) = .int .i64 0 by rw [HA.out]; rfl)
  have A4 := hide (show A.eval (.tmp 4) = .int .i64 0 by rw [HA.out]; rfl)
  have A6 := hide (show A.eval (.tmp 6) = .int .i64 0 by rw [HA.out]; rfl)
  have A8 := hide (show A.eval (.tmp 8) = .int .i64 0 by rw [HA.out]; rfl)
  have A10 := hide (show A.eval (.tmp 10) = .int .i64 0 by rw [HA.out]; rfl)
  have A12 := hide (show A.eval (.tmp 12) = .int .i64 70 by rw [HA.out]; rfl)
  -- slot 49
  refine wpFacts_lit (.int .i64 0) rfl ?_ ?_
  · intro a wq hw hl
    have e2 : a.tmps[2]?.getD undef = .int .i64 0 := (hl 2 (by first | (simp [Op.operands]; done) | simp [Op.operands, Call.operands]) (by rw [HS.out]; decide)).trans A2.out
    clear hl
    go_simp
  -- slot 50
  refine wpFacts_step (fun vq _ => vq = .int .i64 0) rfl (Lit.up _) ?_ ?_
  · intro a wq hw hl
    have e49 : a.tmps[49]?.getD undef = .int .i64 0 := hl 49 (by first | (simp [Op.operands]; done) | simp [Op.operands, Call.operands]) (by rw [HS.out]; decide)
    clear hl
    go_simp
    exact gUpon_same (num8_any _ _)
  -- slot 51
  refine wpFacts_lit (.int .i64 0) rfl ?_ ?_
  · intro a wq hw hl
    have e4 : a.tmps[4]?.getD undef = .int .i64 0 := (hl 4 (by first | (simp [Op.operands]; done) | simp [Op.operands, Call.operands]) (by rw [HS.out]; decide)).trans A4.out
    clear hl
    go_simp
  -- slot 52
  refine wpFacts_step (fun vq _ => vq = .int .i64 0) rfl (Lit.up _) ?_ ?_
  · intro a wq hw hl
    have e51 : a.tmps[51]?.getD undef = .int .i64 0 := hl 51 (by first | (simp [Op.operands]; done) | simp [Op.operands, Call.operands]) (by rw [HS.out]; decide)
    clear hl
    go_simp
    exact gUpon_same (num8_any _ _)
  -- slot 53
  refine wpFacts_lit (.int .i64 0) rfl ?_ ?_
  · intro a wq hw hl
    have e50 : a.tmps[50]?.getD undef = .int .i64 0 := hl 50 (by first | (simp [Op.operands]; done) | simp [Op.operands, Call.operands]) (by rw [HS.out]; decide)
    have e52 : a.tmps[52]?.getD undef = .int .i64 0 := hl 52 (by first | (simp [Op.operands]; done) | simp [Op.operands, Call.operands]) (by rw [HS.out]; decide)
    clear hl
    go_simp
    rfl
  -- slot 54
  refine wpFacts_lit (.int .i64 0) rfl ?_ ?_
  · intro a wq hw hl
    have e6 : a.tmps[6]?.getD undef = .int .i64 0 := (hl 6 (by first | (simp [Op.operands]; done) | simp [Op.operands, Call.operands]) (by rw [HS.out]; decide)).trans A6.out
    clear hl
    go_simp
  -- slot 55
  refine wpFacts_step (fun vq _ => vq = .int .i64 0) rfl (Lit.up _) ?_ ?_
  · intro a wq hw hl
    have e54 : a.tmps[54]?.getD undef = .int .i64 0 := hl 54 (by first | (simp [Op.operands]; done) | simp [Op.operands, Call.operands]) (by rw [HS.out]; decide)
    clear hl
    go_simp
    exact gUpon_same (num8_any _ _)
  -- slot 56
  refine wpFacts_lit (.int .i64 0) rfl ?_ ?_
  · intro a wq hw hl
    have e53 : a.tmps[53]?.getD undef = .int .i64 0 := hl 53 (by first | (simp [Op.operands]; done) | simp [Op.operands, Call.operands]) (by rw [HS.out]; decide)
    have e55 : a.tmps[55]?.getD undef = .int .i64 0 := hl 55 (by first | (simp [Op.operands]; done) | simp [Op.operands, Call.operands]) (by rw [HS.out]; decide)
    clear hl
    go_simp
    rfl
  -- slot 57
  refine wpFacts_lit (.int .i64 0) rfl ?_ ?_
  · intro a wq hw hl
    have e8 : a.tmps[8]?.getD undef = .int .i64 0 := (hl 8 (by first | (simp [Op.operands]; done) | simp [Op.operands, Call.operands]) (by rw [HS.out]; decide)).trans A8.out
    clear hl
    go_simp
  -- slot 58
  refine wpFacts_step (fun vq _ => vq = .int .i64 0) rfl (Lit.up _) ?_ ?_
  · intro a wq hw hl
    have e57 : a.tmps[57]?.getD undef = .int .i64 0 := hl 57 (by first | (simp [Op.operands]; done) | simp [Op.operands, Call.operands]) (by rw [HS.out]; decide)
    clear hl
    go_simp
    exact gUpon_same (num8_any _ _)
  -- slot 59
  refine wpFacts_lit (.int .i64 0) rfl ?_ ?_
  · intro a wq hw hl
    have e56 : a.tmps[56]?.getD undef = .int .i64 0 := hl 56 (by first | (simp [Op.operands]; done) | simp [Op.operands, Call.operands]) (by rw [HS.out]; decide)
    have e58 : a.tmps[58]?.getD undef = .int .i64 0 := hl 58 (by first | (simp [Op.operands]; done) | simp [Op.operands, Call.operands]) (by rw [HS.out]; decide)
    clear hl
    go_simp
    rfl
  -- slot 60
  refine wpFacts_lit (.int .i64 0) rfl ?_ ?_
  · intro a wq hw hl
    have e10 : a.tmps[10]?.getD undef = .int .i64 0 := (hl 10 (by first | (simp [Op.operands]; done) | simp [Op.operands, Call.operands]) (by rw [HS.out]; decide)).trans A10.out
    clear hl
    go_simp
  -- slot 61
  refine wpFacts_step (fun vq _ => vq = .int .i64 0) rfl (Lit.up _) ?_ ?_
  · intro a wq hw hl
    have e60 : a.tmps[60]?.getD undef = .int .i64 0 := hl 60 (by first | (simp [Op.operands]; done) | simp [Op.operands, Call.operands]) (by rw [HS.out]; decide)
    clear hl
    go_simp
    exact gUpon_same (num8_any _ _)
  -- slot 62
  refine wpFacts_lit (.int .i64 0) rfl ?_ ?_
  · intro a wq hw hl
    have e59 : a.tmps[59]?.getD undef = .int .i64 0 := hl 59 (by first | (simp [Op.operands]; done) | simp [Op.operands, Call.operands]) (by rw [HS.out]; decide)
    have e61 : a.tmps[61]?.getD undef = .int .i64 0 := hl 61 (by first | (simp [Op.operands]; done) | simp [Op.operands, Call.operands]) (by rw [HS.out]; decide)
    clear hl
    go_simp
    rfl
  -- slot 63
  refine wpFacts_lit (.bool true) rfl ?_ ?_
  · intro a wq hw hl
    have e62 : a.tmps[62]?.getD undef = .int .i64 0 := hl 62 (by first | (simp [Op.operands]; done) | simp [Op.operands, Call.operands]) (by rw [HS.out]; decide)
    clear hl
    go_simp
  -- slot 64
  refine wpFacts_lit (.bool true) rfl ?_ ?_
  · intro a wq hw hl
    have e63 : a.tmps[63]?.getD undef = .bool true := hl 63 (by first | (simp [Op.operands]; done) | simp [Op.operands, Call.operands]) (by rw [HS.out]; decide)
    clear hl
    go_simp
  -- slot 65
  refine wpFacts_stepG (ValF (Vl.mk (-2) [9223372036854775807] [] [])) 15 true 64 rfl (by rw [HO.out]; rfl) (by rw [HS.out]; decide) (fun _ _ h => h) (ValF.up _) ?_ ?_
  · intro a wq hw hl
    have e1 : a.tmps[1]?.getD undef = .pointer (some ⟨w2.heap.size, 0, none⟩) := (hl 1 (by first | (simp [Op.operands]; done) | simp [Op.operands, Call.operands]) (by rw [HS.out]; decide)).trans A1.out
    obtain ⟨nA, nc, sA, sc, lA, lc, hb, hv⟩ := HBA.out.gb (gb_trans HGW.out hw (.inl rfl))
    have c0 : wq.cell? ⟨w2.heap.size, 0, none⟩ = some (.int .i64 (-2)) := by rw [blk_cell hb]; rfl
    have c1 : wq.cell? ⟨w2.heap.size, 1, none⟩ = some (.slice nA 1 nc) := by rw [blk_cell hb]; rfl
    have c2 : wq.cell? ⟨w2.heap.size, 2, none⟩ = some (.slice sA 0 sc) := by rw [blk_cell hb]; rfl
    have c3 : wq.cell? ⟨w2.heap.size, 3, none⟩ = some (.slice lA 0 lc) := by rw [blk_cell hb]; rfl
    clear hb
    clear hl
    go_simp
    exact ⟨gb_refl _ none, nA, nc, sA, sc, lA, lc, rfl, hv⟩
  -- slot 66
  refine wpFacts_stepG (RowF w18.heap.size 1 #[.int .i64 9223372036854775807] 2) 15 true 64 rfl (by rw [HO.out]; rfl) (by rw [HS.out]; decide) (fun _ _ h => h) (RowF.up _ _ _ _) ?_ ?_
  · intro a wq hw hl
    clear hl
    go_simp
    exact RowF.new _ _ (Nat.le_trans HGW.out.size hw.size)
  -- slot 67
  refine wpFacts_stepG (ValF (Vl.mk (-2) [9223372036854775807] [] [])) 15 true 64 rfl (by rw [HO.out]; rfl) (by rw [HS.out]; decide) (fun _ _ h => h) (ValF.up _) ?_ ?_
  · intro a wq hw hl
    have h66 : (RowF w18.heap.size 1 #[.int .i64 9223372036854775807] 2) (a.tmps[66]?.getD undef) wq := hl 66 (by first | (simp [Op.operands]; done) | simp [Op.operands, Call.operands]) (by rw [HS.out]; decide)
    obtain ⟨rb, e66, hrb, _⟩ := h66
    clear hl
    go_simp
    exact ⟨gb_refl _ none, some ⟨rb, 0, none⟩, 1, none, 0, none, 0, rfl, ⟨rd_blk hrb rfl, Rd.nil_, ⟨[], Rd.nil_, rfl⟩, Nat.le_refl _, Nat.le_refl _, Nat.le_refl _⟩⟩
  -- slot 68
  refine wpFacts_stepG (fun vq _ => vq = .bool true) 15 true 64 rfl (by rw [HO.out]; rfl) (by rw [HS.out]; decide) (fun _ _ h => h) (Lit.up _) ?_ ?_
  · intro a wq hw hl
    have h65 : (ValF (Vl.mk (-2) [9223372036854775807] [] [])) (a.tmps[65]?.getD undef) wq := hl 65 (by first | (simp [Op.operands]; done) | simp [Op.operands, Call.operands]) (by rw [HS.out]; decide)
    obtain ⟨nA, nc, sA, sc, lA, lc, e65, hv⟩ := h65
    have h67 : (ValF (Vl.mk (-2) [9223372036854775807] [] [])) (a.tmps[67]?.getD undef) wq := hl 67 (by first | (simp [Op.operands]; done) | simp [Op.operands, Call.operands]) (by rw [HS.out]; decide)
    obtain ⟨mA, mc, tA, tc, kA, kc, e67, hv2⟩ := h67
    clear hl
    go_simp
    exact gUpon_lit ((rMatch_any (Vl.mk (-2) [9223372036854775807] [] []) (Vl.mk (-2) [9223372036854775807] [] []) wq wq.heap.size nA nc sA sc lA lc mA mc tA tc kA kc (by decide) (by decide) (Nat.le_refl _) hv hv2).mono fun _ _ h => ⟨h.1.trans (by rw [show Vl.same (Vl.mk (-2) [9223372036854775807] [] []) (Vl.mk (-2) [9223372036854775807] [] []) = true by decide]), h.2⟩)
  -- slot 69
  refine wpFacts_lit (.bool true) rfl ?_ ?_
  · intro a wq hw hl
    have e64 : a.tmps[64]?.getD undef = .bool true := hl 64 (by first | (simp [Op.operands]; done) | simp [Op.operands, Call.operands]) (by rw [HS.out]; decide)
    have e68 : a.tmps[68]?.getD undef = .bool true := hl 68 (by first | (simp [Op.operands]; done) | simp [Op.operands, Call.operands]) (by rw [HS.out]; decide)
    clear hl
    go_simp
  -- slot 70
  refine wpFacts_lit (.bool true) rfl ?_ ?_
  · intro a wq hw hl
    have e69 : a.tmps[69]?.getD undef = .bool true := hl 69 (by first | (simp [Op.operands]; done) | simp [Op.operands, Call.operands]) (by rw [HS.out]; decide)
    clear hl
    go_simp
  -- slot 71
  refine wpFacts_stepG (ValF (Vl.mk (-2) [(-2)] [] [])) 21 true 70 rfl (by rw [HO.out]; rfl) (by rw [HS.out]; decide) (fun _ _ h => h) (ValF.up _) ?_ ?_
  · intro a wq hw hl
    have e3 : a.tmps[3]?.getD undef = .pointer (some ⟨w5.heap.size, 0, none⟩) := (hl 3 (by first | (simp [Op.operands]; done) | simp [Op.operands, Call.operands]) (by rw [HS.out]; decide)).trans A3.out
    obtain ⟨nA, nc, sA, sc, lA, lc, hb, hv⟩ := HBB.out.gb (gb_trans HGW.out hw (.inl rfl))
    have c0 : wq.cell? ⟨w5.heap.size, 0, none⟩ = some (.int .i64 (-2)) := by rw [blk_cell hb]; rfl
    have c1 : wq.cell? ⟨w5.heap.size, 1, none⟩ = some (.slice nA 1 nc) := by rw [blk_cell hb]; rfl
    have c2 : wq.cell? ⟨w5.heap.size, 2, none⟩ = some (.slice sA 0 sc) := by rw [blk_cell hb]; rfl
    have c3 : wq.cell? ⟨w5.heap.size, 3, none⟩ = some (.slice lA 0 lc) := by rw [blk_cell hb]; rfl
    clear hb
    clear hl
    go_simp
    exact ⟨gb_refl _ none, nA, nc, sA, sc, lA, lc, rfl, hv⟩
  -- slot 72
  refine wpFacts_stepG (RowF w18.heap.size 1 #[.int .i64 (-2)] 2) 21 true 70 rfl (by rw [HO.out]; rfl) (by rw [HS.out]; decide) (fun _ _ h => h) (RowF.up _ _ _ _) ?_ ?_
  · intro a wq hw hl
    clear hl
    go_simp
    exact RowF.new _ _ (Nat.le_trans HGW.out.size hw.size)
  -- slot 73
  refine wpFacts_stepG (ValF (Vl.mk (-2) [(-2)] [] [])) 21 true 70 rfl (by rw [HO.out]; rfl) (by rw [HS.out]; decide) (fun _ _ h => h) (ValF.up _) ?_ ?_
  · intro a wq hw hl
    have h72 : (RowF w18.heap.size 1 #[.int .i64 (-2)] 2) (a.tmps[72]?.getD undef) wq := hl 72 (by first | (simp [Op.operands]; done) | simp [Op.operands, Call.operands]) (by rw [HS.out]; decide)
    obtain ⟨rb, e72, hrb, _⟩ := h72
    clear hl
    go_simp
    exact ⟨gb_refl _ none, some ⟨rb, 0, none⟩, 1, none, 0, none, 0, rfl, ⟨rd_blk hrb rfl, Rd.nil_, ⟨[], Rd.nil_, rfl⟩, Nat.le_refl _, Nat.le_refl _, Nat.le_refl _⟩⟩
  -- slot 74
  refine wpFacts_stepG (fun vq _ => vq = .bool true) 21 true 70 rfl (by rw [HO.out]; rfl) (by rw [HS.out]; decide) (fun _ _ h => h) (Lit.up _) ?_ ?_
  · intro a wq hw hl
    have h71 : (ValF (Vl.mk (-2) [(-2)] [] [])) (a.tmps[71]?.getD undef) wq := hl 71 (by first | (simp [Op.operands]; done) | simp [Op.operands, Call.operands]) (by rw [HS.out]; decide)
    obtain ⟨nA, nc, sA, sc, lA, lc, e71, hv⟩ := h71
    have h73 : (ValF (Vl.mk (-2) [(-2)] [] [])) (a.tmps[73]?.getD undef) wq := hl 73 (by first | (simp [Op.operands]; done) | simp [Op.operands, Call.operands]) (by rw [HS.out]; decide)
    obtain ⟨mA, mc, tA, tc, kA, kc, e73, hv2⟩ := h73
    clear hl
    go_simp
    exact gUpon_lit ((rMatch_any (Vl.mk (-2) [(-2)] [] []) (Vl.mk (-2) [(-2)] [] []) wq wq.heap.size nA nc sA sc lA lc mA mc tA tc kA kc (by decide) (by decide) (Nat.le_refl _) hv hv2).mono fun _ _ h => ⟨h.1.trans (by rw [show Vl.same (Vl.mk (-2) [(-2)] [] []) (Vl.mk (-2) [(-2)] [] []) = true by decide]), h.2⟩)
  -- slot 75
  refine wpFacts_lit (.bool true) rfl ?_ ?_
  · intro a wq hw hl
    have e70 : a.tmps[70]?.getD undef = .bool true := hl 70 (by first | (simp [Op.operands]; done) | simp [Op.operands, Call.operands]) (by rw [HS.out]; decide)
    have e74 : a.tmps[74]?.getD undef = .bool true := hl 74 (by first | (simp [Op.operands]; done) | simp [Op.operands, Call.operands]) (by rw [HS.out]; decide)
    clear hl
    go_simp
  -- slot 76
  refine wpFacts_lit (.bool true) rfl ?_ ?_
  · intro a wq hw hl
    have e75 : a.tmps[75]?.getD undef = .bool true := hl 75 (by first | (simp [Op.operands]; done) | simp [Op.operands, Call.operands]) (by rw [HS.out]; decide)
    clear hl
    go_simp
  -- slot 77
  refine wpFacts_stepG (ValF (Vl.mk (2) [0, 2, 1] [] [])) 27 true 76 rfl (by rw [HO.out]; rfl) (by rw [HS.out]; decide) (fun _ _ h => h) (ValF.up _) ?_ ?_
  · intro a wq hw hl
    have e5 : a.tmps[5]?.getD undef = .pointer (some ⟨w8.heap.size, 0, none⟩) := (hl 5 (by first | (simp [Op.operands]; done) | simp [Op.operands, Call.operands]) (by rw [HS.out]; decide)).trans A5.out
    obtain ⟨nA, nc, sA, sc, lA, lc, hb, hv⟩ := HBC.out.gb (gb_trans HGW.out hw (.inl rfl))
    have c0 : wq.cell? ⟨w8.heap.size, 0, none⟩ = some (.int .i64 2) := by rw [blk_cell hb]; rfl
    have c1 : wq.cell? ⟨w8.heap.size, 1, none⟩ = some (.slice nA 3 nc) := by rw [blk_cell hb]; rfl
    have c2 : wq.cell? ⟨w8.heap.size, 2, none⟩ = some (.slice sA 0 sc) := by rw [blk_cell hb]; rfl
    have c3 : wq.cell? ⟨w8.heap.size, 3, none⟩ = some (.slice lA 0 lc) := by rw [blk_cell hb]; rfl
    clear hb
    clear hl
    go_simp
    exact ⟨gb_refl _ none, nA, nc, sA, sc, lA, lc, rfl, hv⟩
  -- slot 78
  refine wpFacts_stepG (RowF w18.heap.size 3 #[.int .i64 0, .int .i64 2, .int .i64 1] 2) 27 true 76 rfl (by rw [HO.out]; rfl) (by rw [HS.out]; decide) (fun _ _ h => h) (RowF.up _ _ _ _) ?_ ?_
  · intro a wq hw hl
    clear hl
    go_simp
    exact RowF.new _ _ (Nat.le_trans HGW.out.size hw.size)
  -- slot 79
  refine wpFacts_stepG (ValF (Vl.mk (2) [0, 2, 1] [] [])) 27 true 76 rfl (by rw [HO.out]; rfl) (by rw [HS.out]; decide) (fun _ _ h => h) (ValF.up _) ?_ ?_
  · intro a wq hw hl
    have h78 : (RowF w18.heap.size 3 #[.int .i64 0, .int .i64 2, .int .i64 1] 2) (a.tmps[78]?.getD undef) wq := hl 78 (by first | (simp [Op.operands]; done) | simp [Op.operands, Call.operands]) (by rw [HS.out]; decide)
    obtain ⟨rb, e78, hrb, _⟩ := h78
    clear hl
    go_simp
    refine ⟨gb_refl _ none, (ints8_any (some ⟨rb, 0, none⟩) 3 3 wq).mono fun _ _ h => ?_⟩
    exact ⟨_, h.1, h.2, some ⟨rb, 0, none⟩, 3, none, 0, none, 0, rfl, ints8_vb (l := [0, 2, 1]) (rd_blk hrb rfl) (by decide) (Nat.le_refl _) h.2⟩
  -- slot 80
  refine wpFacts_stepG (fun vq _ => vq = .bool true) 27 true 76 rfl (by rw [HO.out]; rfl) (by rw [HS.out]; decide) (fun _ _ h => h) (Lit.up _) ?_ ?_
  · intro a wq hw hl
    have h77 : (ValF (Vl.mk (2) [0, 2, 1] [] [])) (a.tmps[77]?.getD undef) wq := hl 77 (by first | (simp [Op.operands]; done) | simp [Op.operands, Call.operands]) (by rw [HS.out]; decide)
    obtain ⟨nA, nc, sA, sc, lA, lc, e77, hv⟩ := h77
    have h79 : (ValF (Vl.mk (2) [0, 2, 1] [] [])) (a.tmps[79]?.getD undef) wq := hl 79 (by first | (simp [Op.operands]; done) | simp [Op.operands, Call.operands]) (by rw [HS.out]; decide)
    obtain ⟨mA, mc, tA, tc, kA, kc, e79, hv2⟩ := h79
    clear hl
    go_simp
    exact gUpon_lit ((rMatch_any (Vl.mk (2) [0, 2, 1] [] []) (Vl.mk (2) [0, 2, 1] [] []) wq wq.heap.size nA nc sA sc lA lc mA mc tA tc kA kc (by decide) (by decide) (Nat.le_refl _) hv hv2).mono fun _ _ h => ⟨h.1.trans (by rw [show Vl.same (Vl.mk (2) [0, 2, 1] [] []) (Vl.mk (2) [0, 2, 1] [] []) = true by decide]), h.2⟩)
  -- slot 81
  refine wpFacts_lit (.bool true) rfl ?_ ?_
  · intro a wq hw hl
    have e76 : a.tmps[76]?.getD undef = .bool true := hl 76 (by first | (simp [Op.operands]; done) | simp [Op.operands, Call.operands]) (by rw [HS.out]; decide)
    have e80 : a.tmps[80]?.getD undef = .bool true := hl 80 (by first | (simp [Op.operands]; done) | simp [Op.operands, Call.operands]) (by rw [HS.out]; decide)
    clear hl
    go_simp
  -- slot 82
  refine wpFacts_lit (.bool true) rfl ?_ ?_
  · intro a wq hw hl
    have e81 : a.tmps[81]?.getD undef = .bool true := hl 81 (by first | (simp [Op.operands]; done) | simp [Op.operands, Call.operands]) (by rw [HS.out]; decide)
    clear hl
    go_simp
  -- slot 83
  refine wpFacts_stepG (ValF (Vl.mk (2) [1, 1, 3] [] [])) 33 true 82 rfl (by rw [HO.out]; rfl) (by rw [HS.out]; decide) (fun _ _ h => h) (ValF.up _) ?_ ?_
  · intro a wq hw hl
    have e7 : a.tmps[7]?.getD undef = .pointer (some ⟨w11.heap.size, 0, none⟩) := (hl 7 (by first | (simp [Op.operands]; done) | simp [Op.operands, Call.operands]) (by rw [HS.out]; decide)).trans A7.out
    obtain ⟨nA, nc, sA, sc, lA, lc, hb, hv⟩ := HBD.out.gb (gb_trans HGW.out hw (.inl rfl))
    have c0 : wq.cell? ⟨w11.heap.size, 0, none⟩ = some (.int .i64 2) := by rw [blk_cell hb]; rfl
    have c1 : wq.cell? ⟨w11.heap.size, 1, none⟩ = some (.slice nA 3 nc) := by rw [blk_cell hb]; rfl
    have c2 : wq.cell? ⟨w11.heap.size, 2, none⟩ = some (.slice sA 0 sc) := by rw [blk_cell hb]; rfl
    have c3 : wq.cell? ⟨w11.heap.size, 3, none⟩ = some (.slice lA 0 lc) := by rw [blk_cell hb]; rfl
    clear hb
    clear hl
    go_simp
    exact ⟨gb_refl _ none, nA, nc, sA, sc, lA, lc, rfl, hv⟩
  -- slot 84
  refine wpFacts_stepG (RowF w18.heap.size 3 #[.int .i64 1, .int .i64 1, .int .i64 3] 2) 33 true 82 rfl (by rw [HO.out]; rfl) (by rw [HS.out]; decide) (fun _ _ h => h) (RowF.up _ _ _ _) ?_ ?_
  · intro a wq hw hl
    clear hl
    go_simp
    exact RowF.new _ _ (Nat.le_trans HGW.out.size hw.size)
  -- slot 85
  refine wpFacts_stepG (ValF (Vl.mk (2) [1, 1, 3] [] [])) 33 true 82 rfl (by rw [HO.out]; rfl) (by rw [HS.out]; decide) (fun _ _ h => h) (ValF.up _) ?_ ?_
  · intro a wq hw hl
    have h84 : (RowF w18.heap.size 3 #[.int .i64 1, .int .i64 1, .int .i64 3] 2) (a.tmps[84]?.getD undef) wq := hl 84 (by first | (simp [Op.operands]; done) | simp [Op.operands, Call.operands]) (by rw [HS.out]; decide)
    obtain ⟨rb, e84, hrb, _⟩ := h84
    clear hl
    go_simp
    refine ⟨gb_refl _ none, (ints8_any (some ⟨rb, 0, none⟩) 3 3 wq).mono fun _ _ h => ?_⟩
    exact ⟨_, h.1, h.2, some ⟨rb, 0, none⟩, 3, none, 0, none, 0, rfl, ints8_vb (l := [1, 1, 3]) (rd_blk hrb rfl) (by decide) (Nat.le_refl _) h.2⟩
  -- slot 86
  refine wpFacts_stepG (fun vq _ => vq = .bool true) 33 true 82 rfl (by rw [HO.out]; rfl) (by rw [HS.out]; decide) (fun _ _ h => h) (Lit.up _) ?_ ?_
  · intro a wq hw hl
    have h83 : (ValF (Vl.mk (2) [1, 1, 3] [] [])) (a.tmps[83]?.getD undef) wq := hl 83 (by first | (simp [Op.operands]; done) | simp [Op.operands, Call.operands]) (by rw [HS.out]; decide)
    obtain ⟨nA, nc, sA, sc, lA, lc, e83, hv⟩ := h83
    have h85 : (ValF (Vl.mk (2) [1, 1, 3] [] [])) (a.tmps[85]?.getD undef) wq := hl 85 (by first | (simp [Op.operands]; done) | simp [Op.operands, Call.operands]) (by rw [HS.out]; decide)
    obtain ⟨mA, mc, tA, tc, kA, kc, e85, hv2⟩ := h85
    clear hl
    go_simp
    exact gUpon_lit ((rMatch_any (Vl.mk (2) [1, 1, 3] [] []) (Vl.mk (2) [1, 1, 3] [] []) wq wq.heap.size nA nc sA sc lA lc mA mc tA tc kA kc (by decide) (by decide) (Nat.le_refl _) hv hv2).mono fun _ _ h => ⟨h.1.trans (by rw [show Vl.same (Vl.mk (2) [1, 1, 3] [] []) (Vl.mk (2) [1, 1, 3] [] []) = true by decide]), h.2⟩)
  -- slot 87
  refine wpFacts_lit (.bool true) rfl ?_ ?_
  · intro a wq hw hl
    have e82 : a.tmps[82]?.getD undef = .bool true := hl 82 (by first | (simp [Op.operands]; done) | simp [Op.operands, Call.operands]) (by rw [HS.out]; decide)
    have e86 : a.tmps[86]?.getD undef = .bool true := hl 86 (by first | (simp [Op.operands]; done) | simp [Op.operands, Call.operands]) (by rw [HS.out]; decide)
    clear hl
    go_simp
  -- slot 88
  refine wpFacts_lit (.bool true) rfl ?_ ?_
  · intro a wq hw hl
    have e87 : a.tmps[87]?.getD undef = .bool true := hl 87 (by first | (simp [Op.operands]; done) | simp [Op.operands, Call.operands]) (by rw [HS.out]; decide)
    clear hl
    go_simp
  -- slot 89
  refine wpFacts_stepG (ValF (Vl.mk (2) [5, 2, (-1)] [] [])) 39 true 88 rfl (by rw [HO.out]; rfl) (by rw [HS.out]; decide) (fun _ _ h => h) (ValF.up _) ?_ ?_
  · intro a wq hw hl
    have e9 : a.tmps[9]?.getD undef = .pointer (some ⟨w14.heap.size, 0, none⟩) := (hl 9 (by first | (simp [Op.operands]; done) | simp [Op.operands, Call.operands]) (by rw [HS.out]; decide)).trans A9.out
    obtain ⟨nA, nc, sA, sc, lA, lc, hb, hv⟩ := HBE.out.gb (gb_trans HGW.out hw (.inl rfl))
    have c0 : wq.cell? ⟨w14.heap.size, 0, none⟩ = some (.int .i64 2) := by rw [blk_cell hb]; rfl
    have c1 : wq.cell? ⟨w14.heap.size, 1, none⟩ = some (.slice nA 3 nc) := by rw [blk_cell hb]; rfl
    have c2 : wq.cell? ⟨w14.heap.size, 2, none⟩ = some (.slice sA 0 sc) := by rw [blk_cell hb]; rfl
    have c3 : wq.cell? ⟨w14.heap.size, 3, none⟩ = some (.slice lA 0 lc) := by rw [blk_cell hb]; rfl
    clear hb
    clear hl
    go_simp
    exact ⟨gb_refl _ none, nA, nc, sA, sc, lA, lc, rfl, hv⟩
  -- slot 90
  refine wpFacts_stepG (RowF w18.heap.size 3 #[.int .i64 5, .int .i64 2, .int .i64 (-1)] 2) 39 true 88 rfl (by rw [HO.out]; rfl) (by rw [HS.out]; decide) (fun _ _ h => h) (RowF.up _ _ _ _) ?_ ?_
  · intro a wq hw hl
    clear hl
    go_simp
    exact RowF.new _ _ (Nat.le_trans HGW.out.size hw.size)
  -- slot 91
  refine wpFacts_stepG (ValF (Vl.mk (2) [5, 2, (-1)] [] [])) 39 true 88 rfl (by rw [HO.out]; rfl) (by rw [HS.out]; decide) (fun _ _ h => h) (ValF.up _) ?_ ?_
  · intro a wq hw hl
    have h90 : (RowF w18.heap.size 3 #[.int .i64 5, .int .i64 2, .int .i64 (-1)] 2) (a.tmps[90]?.getD undef) wq := hl 90 (by first | (simp [Op.operands]; done) | simp [Op.operands, Call.operands]) (by rw [HS.out]; decide)
    obtain ⟨rb, e90, hrb, _⟩ := h90
    clear hl
    go_simp
    refine ⟨gb_refl _ none, (ints8_any (some ⟨rb, 0, none⟩) 3 3 wq).mono fun _ _ h => ?_⟩
    exact ⟨_, h.1, h.2, some ⟨rb, 0, none⟩, 3, none, 0, none, 0, rfl, ints8_vb (l := [5, 2, (-1)]) (rd_blk hrb rfl) (by decide) (Nat.le_refl _) h.2⟩
  -- slot 92
  refine wpFacts_stepG (fun vq _ => vq = .bool true) 39 true 88 rfl (by rw [HO.out]; rfl) (by rw [HS.out]; decide) (fun _ _ h => h) (Lit.up _) ?_ ?_
  · intro a wq hw hl
    have h89 : (ValF (Vl.mk (2) [5, 2, (-1)] [] [])) (a.tmps[89]?.getD undef) wq := hl 89 (by first | (simp [Op.operands]; done) | simp [Op.operands, Call.operands]) (by rw [HS.out]; decide)
    obtain ⟨nA, nc, sA, sc, lA, lc, e89, hv⟩ := h89
    have h91 : (ValF (Vl.mk (2) [5, 2, (-1)] [] [])) (a.tmps[91]?.getD undef) wq := hl 91 (by first | (simp [Op.operands]; done) | simp [Op.operands, Call.operands]) (by rw [HS.out]; decide)
    obtain ⟨mA, mc, tA, tc, kA, kc, e91, hv2⟩ := h91
    clear hl
    go_simp
    exact gUpon_lit ((rMatch_any (Vl.mk (2) [5, 2, (-1)] [] []) (Vl.mk (2) [5, 2, (-1)] [] []) wq wq.heap.size nA nc sA sc lA lc mA mc tA tc kA kc (by decide) (by decide) (Nat.le_refl _) hv hv2).mono fun _ _ h => ⟨h.1.trans (by rw [show Vl.same (Vl.mk (2) [5, 2, (-1)] [] []) (Vl.mk (2) [5, 2, (-1)] [] []) = true by decide]), h.2⟩)
  -- slot 93
  refine wpFacts_lit (.bool true) rfl ?_ ?_
  · intro a wq hw hl
    have e88 : a.tmps[88]?.getD undef = .bool true := hl 88 (by first | (simp [Op.operands]; done) | simp [Op.operands, Call.operands]) (by rw [HS.out]; decide)
    have e92 : a.tmps[92]?.getD undef = .bool true := hl 92 (by first | (simp [Op.operands]; done) | simp [Op.operands, Call.operands]) (by rw [HS.out]; decide)
    clear hl
    go_simp
  -- slot 94
  refine wpFacts_lit (.bool true) rfl ?_ ?_
  · intro a wq hw hl
    have e93 : a.tmps[93]?.getD undef = .bool true := hl 93 (by first | (simp [Op.operands]; done) | simp [Op.operands, Call.operands]) (by rw [HS.out]; decide)
    clear hl
    go_simp
  -- slot 95
  refine wpFacts_litG (.int .i64 70) 45 true 94 rfl (by rw [HO.out]; rfl) (by rw [HS.out]; decide) (fun _ _ h => h) ?_ ?_
  · intro a wq hw hl
    have e12 : a.tmps[12]?.getD undef = .int .i64 70 := (hl 12 (by first | (simp [Op.operands]; done) | simp [Op.operands, Call.operands]) (by rw [HS.out]; decide)).trans A12.out
    clear hl
    go_simp
  -- slot 96
  refine wpFacts_stepG (fun vq _ => vq = .int .i64 70) 45 true 94 rfl (by rw [HO.out]; rfl) (by rw [HS.out]; decide) (fun _ _ h => h) (Lit.up _) ?_ ?_
  · intro a wq hw hl
    have e95 : a.tmps[95]?.getD undef = .int .i64 70 := hl 95 (by first | (simp [Op.operands]; done) | simp [Op.operands, Call.operands]) (by rw [HS.out]; decide)
    clear hl
    go_simp
    exact gUpon_same (num8_any _ _)
  -- slot 97
  refine wpFacts_litG (.bool true) 45 true 94 rfl (by rw [HO.out]; rfl) (by rw [HS.out]; decide) (fun _ _ h => h) ?_ ?_
  · intro a wq hw hl
    have e96 : a.tmps[96]?.getD undef = .int .i64 70 := hl 96 (by first | (simp [Op.operands]; done) | simp [Op.operands, Call.operands]) (by rw [HS.out]; decide)
    clear hl
    go_simp
  -- slot 98
  refine wpFacts_lit (.bool true) rfl ?_ ?_
  · intro a wq hw hl
    have e94 : a.tmps[94]?.getD undef = .bool true := hl 94 (by first | (simp [Op.operands]; done) | simp [Op.operands, Call.operands]) (by rw [HS.out]; decide)
    have e97 : a.tmps[97]?.getD undef = .bool true := hl 97 (by first | (simp [Op.operands]; done) | simp [Op.operands, Call.operands]) (by rw [HS.out]; decide)
    clear hl
    go_simp
  refine HL.out _ (fun a' wz hc => ?_)
  have e98 : a'.eval (.tmp 98) = .bool true := hc.fact 98 (by rw [HS.out]; decide)
  have hgwz := gb_trans HGW.out hc.grown (.inl rfl)
  have hfr := hc.frame [49, 50, 51, 52, 53, 54, 55, 56, 57, 58, 59, 60, 61, 62, 63, 64, 65, 66, 67, 68, 69, 70, 71, 72, 73, 74, 75, 76, 77, 78, 79, 80, 81, 82, 83, 84, 85, 86, 87, 88, 89, 90, 91, 92, 93, 94, 95, 96, 97, 98, 0] (by rw [HO.out]; kernel_rfl)
  rw [hfr]
  clear hfr hc
  rw [HA.out]
  clear HA HO HL HW HS HGW A1 A3 A5 A7 A9 A2 A4 A6 A8 A10 A12
  clear A O W L
  simp only [List.drop_succ_cons, List.drop_zero, List.foldl_cons, List.foldl_nil, Act.put, List.setIfInBounds_toArray, List.set_cons_succ, List.set_cons_zero]
  rw [e98]
  generalize a'.eval (.tmp 49) = x49
  generalize a'.eval (.tmp 50) = x50
  generalize a'.eval (.tmp 51) = x51
  generalize a'.eval (.tmp 52) = x52
  generalize a'.eval (.tmp 53) = x53
  generalize a'.eval (.tmp 54) = x54
  generalize a'.eval (.tmp 55) = x55
  generalize a'.eval (.tmp 56) = x56
  generalize a'.eval (.tmp 57) = x57
  generalize a'.eval (.tmp 58) = x58
  generalize a'.eval (.tmp 59) = x59
  generalize a'.eval (.tmp 60) = x60
  generalize a'.eval (.tmp 61) = x61
  generalize a'.eval (.tmp 62) = x62
  generalize a'.eval (.tmp 63) = x63
  generalize a'.eval (.tmp 64) = x64
  generalize a'.eval (.tmp 65) = x65
  generalize a'.eval (.tmp 66) = x66
  generalize a'.eval (.tmp 67) = x67
  generalize a'.eval (.tmp 68) = x68
  generalize a'.eval (.tmp 69) = x69
  generalize a'.eval (.tmp 70) = x70
  generalize a'.eval (.tmp 71) = x71
  generalize a'.eval (.tmp 72) = x72
  generalize a'.eval (.tmp 73) = x73
  generalize a'.eval (.tmp 74) = x74
  generalize a'.eval (.tmp 75) = x75
  generalize a'.eval (.tmp 76) = x76
  generalize a'.eval (.tmp 77) = x77
  generalize a'.eval (.tmp 78) = x78
  generalize a'.eval (.tmp 79) = x79
  generalize a'.eval (.tmp 80) = x80
  generalize a'.eval (.tmp 81) = x81
  generalize a'.eval (.tmp 82) = x82
  generalize a'.eval (.tmp 83) = x83
  generalize a'.eval (.tmp 84) = x84
  generalize a'.eval (.tmp 85) = x85
  generalize a'.eval (.tmp 86) = x86
  generalize a'.eval (.tmp 87) = x87
  generalize a'.eval (.tmp 88) = x88
  generalize a'.eval (.tmp 89) = x89
  generalize a'.eval (.tmp 90) = x90
  generalize a'.eval (.tmp 91) = x91
  generalize a'.eval (.tmp 92) = x92
  generalize a'.eval (.tmp 93) = x93
  generalize a'.eval (.tmp 94) = x94
  generalize a'.eval (.tmp 95) = x95
  generalize a'.eval (.tmp 96) = x96
  generalize a'.eval (.tmp 97) = x97
  generalize a'.eval (.tmp 0) = x0
  clear e98
  clear a'
  have HGZ := hide (gb_trans HG0.out hgwz (.inl rfl))
  clear hgwz
  go_wp2_with fail
  exact bodyPost_ret (v := .bool true) (by simp [results, Tryz.results8, go_sem]) rfl ⟨rfl, HGZ.out⟩
end Go.Proofs.YtgepejnooghjbaaGreat
