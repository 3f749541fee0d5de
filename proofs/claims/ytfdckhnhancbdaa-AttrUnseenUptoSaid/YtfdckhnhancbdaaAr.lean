/-
  The law of a nil Index, walked.
-/
import Derived.Test.YtfdckhnhancbdaaAq
namespace Go.Proofs.Ytfdckhnhancbdaa
open Go.RowKit
attribute [local go_sem ↓] Go.wp_at_zero Go.wp_at_succ

theorem box4 {w : World} {b : Nat} {c0 c1 c2 c3 : Value} {ty : TypeId} (h : w.heap[b]? = some (.cells #[c0, c1, c2, c3] ty (0, 0))) : w.cell? ⟨b, 0, none⟩ = some c0 ∧ w.cell? ⟨b, 1, none⟩ = some c1 ∧ w.cell? ⟨b, 2, none⟩ = some c2 ∧ w.cell? ⟨b, 3, none⟩ = some c3 :=
  ⟨by rw [blk_cell h]; rfl, by rw [blk_cell h]; rfl, by rw [blk_cell h]; rfl, by rw [blk_cell h]; rfl⟩
theorem vb_zero (w : World) : VB w w.heap.size (.mk 0 [] [] []) none 0 none 0 none 0 := ⟨Rd.nil_, Rd.nil_, ⟨[], Rd.nil_, rfl⟩, Nat.le_refl _, Nat.le_refl _, Nat.le_refl _⟩
theorem match_zero (w : World) : Calls Try.prog 22 #[.agg #[.int .i64 0, .slice none 0 0, .slice none 0 0, .slice none 0 0], .agg #[.int .i64 0, .slice none 0 0, .slice none 0 0, .slice none 0 0]] w fun e w' => e = .returned (.bool true) ∧ w.grownBy w' none := by
  have h := rMatch_any (.mk 0 [] [] []) (.mk 0 [] [] []) w w.heap.size none 0 none 0 none 0 none 0 none 0 none 0 (by decide) (by decide) (Nat.le_refl _) (vb_zero w) (vb_zero w)
  rw [Vl.same_refl] at h
  exact h
set_option maxHeartbeats 8000000 in
set_option maxRecDepth 100000 in
theorem nil_walk (t : Int) (A1 : Option Addr) (n1 c1 : Nat) (A2 : Option Addr) (n2 c2 : Nat) (A3 : Option Addr) (n3 c3 : Nat) (w : World) : Calls Try.prog 6 #[.agg #[.int .i64 t, .slice A1 n1 c1, .slice A2 n2 c2, .slice A3 n3 c3]] w fun e w' => e = .returned (.bool true) ∧ w.grownBy w' none := by
  obtain ⟨wa, hwa⟩ : ∃ wa, wa = w.alloc (.cells #[.int .i64 t, .slice A1 n1 c1, .slice A2 n2 c2, .slice A3 n3 c3] 26) := ⟨_, rfl⟩
  have hga : w.grownBy wa none := by rw [hwa]; exact gb_alloc (gb_refl w none) _
  have hba : wa.heap[w.heap.size]? = some (.cells #[.int .i64 t, .slice A1 n1 c1, .slice A2 n2 c2, .slice A3 n3 c3] 26 (0, 0)) := by rw [hwa]; exact heap_alloc_new w _
  have HWE := hide hwa
  have HGA := hide hga
  have HBA := hide hba
  clear hwa hga hba
  go_enter Try.func6, Try.ntmps6
  go_wp2_with fail
  rw [← HWE.out]
  refine (find_nil _ _ _ _ wa).mono ?_
  rintro e w1 ⟨rfl, hg1⟩
  have HB1 := hide (blk_keep HBA.out hg1 (by simp))
  have HG1 := hide (gb_trans HGA.out hg1 (.inl rfl))
  obtain ⟨y10, y11, y12, y13⟩ := box4 HB1.out
  clear hg1
  go_wp2_with fail
  refine (first_nil _ _ _ _ w1).mono ?_
  rintro e w2 ⟨rfl, hg2⟩
  have HB2 := hide (blk_keep HB1.out hg2 (by simp))
  have HG2 := hide (gb_trans HG1.out hg2 (.inl rfl))
  obtain ⟨y20, y21, y22, y23⟩ := box4 HB2.out
  clear hg2
  go_wp2_with fail
  refine (range_nil w2).mono ?_
  rintro e w3 ⟨rfl, hg3⟩
  have HB3 := hide (blk_keep HB2.out hg3 (by simp))
  have HG3 := hide (gb_trans HG2.out hg3 (.inl rfl))
  obtain ⟨y30, y31, y32, y33⟩ := box4 HB3.out
  clear hg3
  go_wp2_with fail
  refine (groups_nil w3).mono ?_
  rintro e w4 ⟨rfl, hg4⟩
  have HB4 := hide (blk_keep HB3.out hg4 (by simp))
  have HG4 := hide (gb_trans HG3.out hg4 (.inl rfl))
  obtain ⟨y40, y41, y42, y43⟩ := box4 HB4.out
  clear hg4
  have v0 : ∀ o, (w4.alloc o).cell? ⟨w.heap.size, 0, none⟩ = some (.int .i64 t) := fun o => by rw [World.cell?_alloc_lt w4 o _ (blk_lt HB4.out)]; exact y40
  have v1 : ∀ o, (w4.alloc o).cell? ⟨w.heap.size, 1, none⟩ = some (.slice A1 n1 c1) := fun o => by rw [World.cell?_alloc_lt w4 o _ (blk_lt HB4.out)]; exact y41
  have v2 : ∀ o, (w4.alloc o).cell? ⟨w.heap.size, 2, none⟩ = some (.slice A2 n2 c2) := fun o => by rw [World.cell?_alloc_lt w4 o _ (blk_lt HB4.out)]; exact y42
  have v3 : ∀ o, (w4.alloc o).cell? ⟨w.heap.size, 3, none⟩ = some (.slice A3 n3 c3) := fun o => by rw [World.cell?_alloc_lt w4 o _ (blk_lt HB4.out)]; exact y43
  go_wp2_with fail
  obtain ⟨w5, hw5⟩ : ∃ w5, w5 = w4.alloc (.cells #[.int .i64 0, .slice none 0 0, .slice none 0 0, .slice none 0 0] 26) := ⟨_, rfl⟩
  have hg45 : w4.grownBy w5 none := by rw [hw5]; exact gb_alloc (gb_refl w4 none) _
  have HZ5 := hide (show w5.heap[w4.heap.size]? = some (.cells #[.int .i64 0, .slice none 0 0, .slice none 0 0, .slice none 0 0] 26 (0, 0)) by rw [hw5]; exact heap_alloc_new w4 _)
  have HB5 := hide (blk_keep HB4.out hg45 (by simp))
  have HG5 := hide (gb_trans HG4.out hg45 (.inl rfl))
  rw [← hw5]
  clear hw5 hg45 v0 v1 v2 v3
  refine (append_nil _ _ _ _ w5).mono ?_
  rintro e w6 ⟨rfl, hg6⟩
  have HB6 := hide (blk_keep HB5.out hg6 (by simp))
  have HZ6 := hide (blk_keep HZ5.out hg6 (by simp))
  have HG6 := hide (gb_trans HG5.out hg6 (.inl rfl))
  obtain ⟨y60, y61, y62, y63⟩ := box4 HB6.out
  clear hg6
  go_wp2_with fail
  refine (set_nil _ _ _ _ w6).mono ?_
  rintro e w7 ⟨rfl, hg7⟩
  have HZ7 := hide (blk_keep HZ6.out hg7 (by simp))
  have HG7 := hide (gb_trans HG6.out hg7 (.inl rfl))
  clear hg7
  go_wp2_with fail
  refine (kind_nil w7).mono ?_
  rintro e w8 ⟨rfl, hg8⟩
  have HZ8 := hide (blk_keep HZ7.out hg8 (by simp))
  have HG8 := hide (gb_trans HG7.out hg8 (.inl rfl))
  clear hg8
  go_wp2_with fail
  refine (vector_nil w8).mono ?_
  rintro e w9 ⟨rfl, hg9⟩
  have HZ9 := hide (blk_keep HZ8.out hg9 (by simp))
  have HG9 := hide (gb_trans HG8.out hg9 (.inl rfl))
  clear hg9
  go_wp2_with fail
  refine (match_zero w9).mono ?_
  rintro e w10 ⟨rfl, hg10⟩
  have HZ10 := hide (blk_keep HZ9.out hg10 (by simp))
  have HG10 := hide (gb_trans HG9.out hg10 (.inl rfl))
  obtain ⟨z0, z1, z2, z3⟩ := box4 HZ10.out
  clear hg10
  go_wp2_with (go_at_call 12; refine (num_any _ _).mono ?_; rintro e wn ⟨rfl, rfl⟩)
  refine (match_zero w10).mono ?_
  rintro e w11 ⟨rfl, hg11⟩
  have HG11 := hide (gb_trans HG10.out hg11 (.inl rfl))
  clear hg11
  go_wp2_with (go_at_call 12; refine (num_any _ _).mono ?_; rintro e wn ⟨rfl, rfl⟩)
  refine (live_any w11).mono ?_
  rintro e w12 ⟨rfl, hg12⟩
  have HG12 := hide (gb_trans HG11.out hg12 (.inl rfl))
  clear hg12
  go_wp2_with fail
  go_ret
  exact ⟨rfl, HG12.out⟩
end Go.Proofs.Ytfdckhnhancbdaa
