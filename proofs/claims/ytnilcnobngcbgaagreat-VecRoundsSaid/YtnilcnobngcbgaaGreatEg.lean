/-
  The law's live: it tells true.
-/
import Derived.Test.YtnilcnobngcbgaaGreatEf
import Derived.Test.YtnilcnobngcbgaaGreatVd
namespace Go.Proofs.YtnilcnobngcbgaaGreat
open Go.RowKit
attribute [local go_sem ↓] Go.wp_at_zero Go.wp_at_succ

theorem rd_lit (w : World) (cs : Array Value) (t : TypeId) (xs : List Value) (h : xs = cs.toList) : Rd (w.alloc (.cells cs t)) (w.alloc (.cells cs t)).heap.size (some ⟨w.heap.size, 0, none⟩) xs :=
  (Rd.new w cs t xs h).more (by rw [World.size_alloc]; exact Nat.le_refl _)
theorem ints_new (l : List Int) (cs : Array Value) (hcs : i64s l = cs.toList) (n : Nat) (hn : l.length = n) (w : World) (hl : l.length ≤ 1100000) :
    Calls Tryz.prog 28 #[.slice (some ⟨w.heap.size, 0, none⟩) n n] (w.alloc (.cells cs 2)) fun e w' => ∃ nA nc sA sc lA lc, e = .returned (.agg #[.int .i64 2, .slice nA n nc, .slice sA 0 sc, .slice lA 0 lc]) ∧ VB w' w'.heap.size (.mk 2 l [] []) nA nc sA sc lA lc ∧ w.grownBy w' none := by
  subst hn
  refine (ints7_any l _ _ _ hl (rd_lit w cs _ _ hcs)).mono ?_
  rintro e w' ⟨nA, nc, sA, sc, lA, lc, f, he, ho, _, hg⟩
  exact ⟨nA, nc, sA, sc, lA, lc, he, ho.vb, gb_trans (gb_alloc (gb_refl w none) _) hg (.inl rfl)⟩
theorem atom_new (n : Int) (w : World) : Calls Tryz.prog 21 #[.int .i64 2, .int .i64 n] w fun e w' => ∃ nA nc sA sc lA lc, e = .returned (.agg #[.int .i64 (-2), .slice nA 1 nc, .slice sA 0 sc, .slice lA 0 lc]) ∧ VB w' w'.heap.size (.mk (-2) [n] [] []) nA nc sA sc lA lc ∧ w.grownBy w' none := by
  refine (rAtomI_any n w).mono ?_
  rintro e w' ⟨nA, nc, sA, sc, lA, lc, f, he, ho, _, hg⟩
  exact ⟨nA, nc, sA, sc, lA, lc, he, ho.vb, hg⟩
theorem DoR.lit {t : Int} {l : List Int} {w w' : World} {e : Ending} (n : Nat) (hn : l.length = n) (h : DoR (.ok (t, l)) w e w') :
    ∃ A c, e = .returned (.tuple #[.agg #[.int .i64 t, .slice A n c, .slice none 0 0, .slice none 0 0], .int .i64 0]) ∧ VB w' w'.heap.size (.mk t l [] []) A c none 0 none 0 ∧ w.grownBy w' none := by
  subst hn
  obtain ⟨hg, A, c, hlc, rfl, ho⟩ := h
  exact ⟨A, c, rfl, ⟨Rd.of_own ho, Rd.nil_, ⟨[], Rd.nil_, rfl⟩, hlc, Nat.le_refl _, Nat.le_refl _⟩, hg⟩
theorem rdV_two {w : World} {a b : Vl} {aA : Option Addr} {ac : Nat} {bA : Option Addr} {bc : Nat} {cA : Option Addr} {cc : Nat} {dA : Option Addr} {dc : Nat} {eA : Option Addr} {ec : Nat} {fA : Option Addr} {fc : Nat}
    (ha : VB w w.heap.size a aA ac bA bc cA cc) (hb : VB w w.heap.size b dA dc eA ec fA fc) :
    RdV (w.alloc (.cells #[.int .i64 a.t, .slice aA a.n.length ac, .slice bA a.s.length bc, .slice cA a.l.length cc, .int .i64 b.t, .slice dA b.n.length dc, .slice eA b.s.length ec, .slice fA b.l.length fc] 26))
      (w.alloc (.cells #[.int .i64 a.t, .slice aA a.n.length ac, .slice bA a.s.length bc, .slice cA a.l.length cc, .int .i64 b.t, .slice dA b.n.length dc, .slice eA b.s.length ec, .slice fA b.l.length fc] 26)).heap.size (some ⟨w.heap.size, 0, none⟩) [a, b] := by
  have hg := gb_alloc (gb_refl w none) (.cells #[.int .i64 a.t, .slice aA a.n.length ac, .slice bA a.s.length bc, .slice cA a.l.length cc, .int .i64 b.t, .slice dA b.n.length dc, .slice eA b.s.length ec, .slice fA b.l.length fc] 26)
  exact ⟨[[.int .i64 a.t, .slice aA a.n.length ac, .slice bA a.s.length bc, .slice cA a.l.length cc], [.int .i64 b.t, .slice dA b.n.length dc, .slice eA b.s.length ec, .slice fA b.l.length fc]], rd_lit w _ _ _ rfl,
    ⟨_, _, rfl, ((ha.gb hg (Nat.le_refl _)).up hg.size).at_, _, _, rfl, ((hb.gb hg (Nat.le_refl _)).up hg.size).at_, rfl⟩⟩
theorem rd_blk {w : World} {b : Nat} {cs : Array Value} {t : TypeId} {l : List Value} (h : w.heap[b]? = some (.cells cs t (0, 0))) (hl : l = cs.toList) : Rd w w.heap.size (some ⟨b, 0, none⟩) l := by
  intro _
  refine ⟨_, rfl, blk_lt h, fun k v hv => ?_⟩
  have : (⟨b, 0, none⟩ : Addr).add k = ⟨b, k, none⟩ := by unfold Addr.add; split <;> simp_all
  rw [this, blk_cell h]
  rw [hl] at hv
  simpa using hv
/-- A value in its box. -/
def BoxV (w : World) (b : Nat) (v : Vl) : Prop := ∃ nA nc sA sc lA lc, w.heap[b]? = some (.cells #[.int .i64 v.t, .slice nA v.n.length nc, .slice sA v.s.length sc, .slice lA v.l.length lc] 26 (0, 0)) ∧ VB w w.heap.size v nA nc sA sc lA lc
theorem BoxV.gb {w w' : World} {b : Nat} {v : Vl} (h : BoxV w b v) (hg : w.grownBy w' none) : BoxV w' b v := by
  obtain ⟨nA, nc, sA, sc, lA, lc, h1, h2⟩ := h
  exact ⟨nA, nc, sA, sc, lA, lc, blk_keep h1 hg (by simp), (h2.gb hg (Nat.le_refl _)).up hg.size⟩
theorem BoxV.new {w : World} {v : Vl} {nA : Option Addr} {nc : Nat} {sA : Option Addr} {sc : Nat} {lA : Option Addr} {lc : Nat} (h : VB w w.heap.size v nA nc sA sc lA lc) :
    BoxV (w.alloc (.cells #[.int .i64 v.t, .slice nA v.n.length nc, .slice sA v.s.length sc, .slice lA v.l.length lc] 26)) w.heap.size v :=
  ⟨nA, nc, sA, sc, lA, lc, heap_alloc_new w _, (h.gb (gb_alloc (gb_refl w none) _) (Nat.le_refl _)).up (by rw [World.size_alloc]; omega)⟩
theorem intV_lit (t : Int) (l : List Int) (ht : t = 2 ∨ t = -2 ∧ l.length = 1) (hl : l.length ≤ 1000000) (hi : ∀ k ∈ l, I64 k) : IntV (.mk t l [] []) :=
  ⟨ht, hl, hi, by rw [Vl.tot_def]; show 1 + l.length + 0 + 0 + 0 ≤ 1100000; omega⟩
section
variable (w : World)
theorem iv12 : IntV (Vl.mk (2) [1, 2] [] []) := intV_lit _ _ (by decide) (by decide) (by intro k hk; simp at hk; unfold I64; omega)
theorem iv1020 : IntV (Vl.mk (2) [10, 20] [] []) := intV_lit _ _ (by decide) (by decide) (by intro k hk; simp at hk; unfold I64; omega)
theorem iv7 : IntV (Vl.mk (-2) [-7] [] []) := intV_lit _ _ (by decide) (by decide) (by intro k hk; simp at hk; unfold I64; omega)
theorem iv2 : IntV (Vl.mk (2) [2] [] []) := intV_lit _ _ (by decide) (by decide) (by intro k hk; simp at hk; unfold I64; omega)
theorem ivM : IntV (Vl.mk (-2) [9223372036854775807] [] []) := intV_lit _ _ (by decide) (by decide) (by intro k hk; simp at hk; unfold I64; omega)
theorem iv1 : IntV (Vl.mk (-2) [1] [] []) := intV_lit _ _ (by decide) (by decide) (by intro k hk; simp at hk; unfold I64; omega)
theorem iv123 : IntV (Vl.mk (2) [1, 2, 3] [] []) := intV_lit _ _ (by decide) (by decide) (by intro k hk; simp at hk; unfold I64; omega)
theorem iv23 : IntV (Vl.mk (2) [2, 3] [] []) := intV_lit _ _ (by decide) (by decide) (by intro k hk; simp at hk; unfold I64; omega)
end
theorem ev1 : doI (strictF sumF) (Vl.mk (2) [1, 2] [] []) (Vl.mk (2) [10, 20] [] []) = .ok (2, [11, 22]) := by rfl
theorem ev2 : doI (strictF quoF) (Vl.mk (-2) [-7] [] []) (Vl.mk (2) [2] [] []) = .ok (2, [-4]) := by rfl
theorem ev3 : doI (strictF sumF) (Vl.mk (-2) [9223372036854775807] [] []) (Vl.mk (-2) [1] [] []) = .error 70 := by rfl
theorem ev4 : doI (strictF sumF) (Vl.mk (2) [1, 2] [] []) (Vl.mk (2) [1, 2, 3] [] []) = .error 32 := by rfl
theorem ev5 : ((rowI (min (-3) 0) 3).map fun p => remI p ((2 : Nat) : Int)).map (pickI [1, 2] (-9223372036854775808)) = [2, 1, 2] := by rfl
set_option maxHeartbeats 8000000 in
set_option maxRecDepth 100000 in
theorem live7_any (w : World) : Calls Tryz.prog 7 #[] w fun e w' => e = .returned (.bool true) ∧ w.grownBy w' none := by
  have HG0 := hide (gb_refl w none)
  go_enter Tryz.func7, Tryz.ntmps7
  go_wp2_with fail
  refine (ints_new [1, 2] _ rfl 2 rfl _ (by decide)).mono ?_
  rintro e w1 ⟨nA1, nc1, sA1, sc1, lA1, lc1, rfl, hv1, hg1⟩
  have HGn := hide (gb_trans HG0.out hg1 (.inl rfl))
  clear HG0
  have HG0 := hide HGn.out
  clear HGn hg1
  have HV1 := hide hv1
  clear hv1
  go_wp2_with fail
  refine (ints_new [10, 20] _ rfl 2 rfl _ (by decide)).mono ?_
  rintro e w2 ⟨nA2, nc2, sA2, sc2, lA2, lc2, rfl, hv2, hg2⟩
  have HV1n := hide ((HV1.out.gb hg2 (Nat.le_refl _)).up hg2.size)
  clear HV1
  have HV1 := hide HV1n.out
  clear HV1n
  have HGn := hide (gb_trans HG0.out hg2 (.inl rfl))
  clear HG0
  have HG0 := hide HGn.out
  clear HGn hg2
  have HV2 := hide hv2
  clear hv2
  go_wp2_with fail
  have CD := do_add (Vl.mk (2) [1, 2] [] []) (Vl.mk (2) [10, 20] [] []) _ _ nA1 nc1 sA1 sc1 lA1 lc1 nA2 nc2 sA2 sc2 lA2 lc2 iv12 iv1020 (Nat.le_refl _) HV1.out HV2.out
  rw [ev1] at CD
  refine CD.mono ?_
  clear CD
  clear HV1
  clear HV2
  intro e w3 hd
  obtain ⟨nA3, nc3, rfl, hv3, hg3⟩ := DoR.lit 2 rfl hd
  clear hd
  have HGn := hide (gb_trans HG0.out hg3 (.inl rfl))
  clear HG0
  have HG0 := hide HGn.out
  clear HGn hg3
  have HB3 := hide (BoxV.new hv3)
  clear hv3
  go_wp2_with fail
  obtain ⟨w4, hw4⟩ : ∃ w4, w4 = w3.alloc (.cells #[.int .i64 2, .slice nA3 2 nc3, .slice none 0 0, .slice none 0 0] 26) := ⟨_, rfl⟩
  have hg4 : w3.grownBy w4 none := by rw [hw4]; exact gb_alloc (gb_refl w3 none) _
  have HBA : Hid (BoxV w4 w3.heap.size (Vl.mk (2) [11, 22] [] [])) := hide (by rw [hw4]; exact HB3.out)
  clear HB3
  have HGn := hide (gb_trans HG0.out hg4 (.inl rfl))
  clear HG0
  have HG0 := hide HGn.out
  clear HGn hg4
  have hs4 : w3.heap.size + 1 = w4.heap.size := by rw [hw4, World.size_alloc]
  rw [← hw4]
  try rw [hs4]
  clear hw4 hs4
  refine (atom_new (-7) _).mono ?_
  rintro e w5 ⟨nA5, nc5, sA5, sc5, lA5, lc5, rfl, hv5, hg5⟩
  have HBAn := hide (HBA.out.gb hg5)
  clear HBA
  have HBA := hide HBAn.out
  clear HBAn
  have HGn := hide (gb_trans HG0.out hg5 (.inl rfl))
  clear HG0
  have HG0 := hide HGn.out
  clear HGn hg5
  have HV5 := hide hv5
  clear hv5
  go_wp2_with fail
  refine (ints_new [2] _ rfl 1 rfl _ (by decide)).mono ?_
  rintro e w6 ⟨nA6, nc6, sA6, sc6, lA6, lc6, rfl, hv6, hg6⟩
  have HBAn := hide (HBA.out.gb hg6)
  clear HBA
  have HBA := hide HBAn.out
  clear HBAn
  have HV5n := hide ((HV5.out.gb hg6 (Nat.le_refl _)).up hg6.size)
  clear HV5
  have HV5 := hide HV5n.out
  clear HV5n
  have HGn := hide (gb_trans HG0.out hg6 (.inl rfl))
  clear HG0
  have HG0 := hide HGn.out
  clear HGn hg6
  have HV6 := hide hv6
  clear hv6
  go_wp2_with fail
  have CD := do_divide (Vl.mk (-2) [-7] [] []) (Vl.mk (2) [2] [] []) _ _ nA5 nc5 sA5 sc5 lA5 lc5 nA6 nc6 sA6 sc6 lA6 lc6 iv7 iv2 (Nat.le_refl _) HV5.out HV6.out
  rw [ev2] at CD
  refine CD.mono ?_
  clear CD
  clear HV5
  clear HV6
  intro e w7 hd
  obtain ⟨nA7, nc7, rfl, hv7, hg7⟩ := DoR.lit 1 rfl hd
  clear hd
  have HBAn := hide (HBA.out.gb hg7)
  clear HBA
  have HBA := hide HBAn.out
  clear HBAn
  have HGn := hide (gb_trans HG0.out hg7 (.inl rfl))
  clear HG0
  have HG0 := hide HGn.out
  clear HGn hg7
  have HB7 := hide (BoxV.new hv7)
  clear hv7
  go_wp2_with fail
  obtain ⟨w8, hw8⟩ : ∃ w8, w8 = w7.alloc (.cells #[.int .i64 2, .slice nA7 1 nc7, .slice none 0 0, .slice none 0 0] 26) := ⟨_, rfl⟩
  have hg8 : w7.grownBy w8 none := by rw [hw8]; exact gb_alloc (gb_refl w7 none) _
  have HBB : Hid (BoxV w8 w7.heap.size (Vl.mk (2) [-4] [] [])) := hide (by rw [hw8]; exact HB7.out)
  clear HB7
  have HBAn := hide (HBA.out.gb hg8)
  clear HBA
  have HBA := hide HBAn.out
  clear HBAn
  have HGn := hide (gb_trans HG0.out hg8 (.inl rfl))
  clear HG0
  have HG0 := hide HGn.out
  clear HGn hg8
  have hs8 : w7.heap.size + 1 = w8.heap.size := by rw [hw8, World.size_alloc]
  rw [← hw8]
  try rw [hs8]
  clear hw8 hs8
  refine (atom_new (9223372036854775807) _).mono ?_
  rintro e w9 ⟨nA9, nc9, sA9, sc9, lA9, lc9, rfl, hv9, hg9⟩
  have HBAn := hide (HBA.out.gb hg9)
  clear HBA
  have HBA := hide HBAn.out
  clear HBAn
  have HBBn := hide (HBB.out.gb hg9)
  clear HBB
  have HBB := hide HBBn.out
  clear HBBn
  have HGn := hide (gb_trans HG0.out hg9 (.inl rfl))
  clear HG0
  have HG0 := hide HGn.out
  clear HGn hg9
  have HV9 := hide hv9
  clear hv9
  go_wp2_with fail
  refine (atom_new (1) _).mono ?_
  rintro e w10 ⟨nA10, nc10, sA10, sc10, lA10, lc10, rfl, hv10, hg10⟩
  have HBAn := hide (HBA.out.gb hg10)
  clear HBA
  have HBA := hide HBAn.out
  clear HBAn
  have HBBn := hide (HBB.out.gb hg10)
  clear HBB
  have HBB := hide HBBn.out
  clear HBBn
  have HV9n := hide ((HV9.out.gb hg10 (Nat.le_refl _)).up hg10.size)
  clear HV9
  have HV9 := hide HV9n.out
  clear HV9n
  have HGn := hide (gb_trans HG0.out hg10 (.inl rfl))
  clear HG0
  have HG0 := hide HGn.out
  clear HGn hg10
  have HV10 := hide hv10
  clear hv10
  go_wp2_with fail
  have CD := do_add (Vl.mk (-2) [9223372036854775807] [] []) (Vl.mk (-2) [1] [] []) _ _ nA9 nc9 sA9 sc9 lA9 lc9 nA10 nc10 sA10 sc10 lA10 lc10 ivM iv1 (Nat.le_refl _) HV9.out HV10.out
  rw [ev3] at CD
  refine CD.mono ?_
  clear CD
  clear HV9
  clear HV10
  rintro e w11 ⟨hg11, rfl⟩
  have HBAn := hide (HBA.out.gb hg11)
  clear HBA
  have HBA := hide HBAn.out
  clear HBAn
  have HBBn := hide (HBB.out.gb hg11)
  clear HBB
  have HBB := hide HBBn.out
  clear HBBn
  have HGn := hide (gb_trans HG0.out hg11 (.inl rfl))
  clear HG0
  have HG0 := hide HGn.out
  clear HGn hg11
  go_wp2_with fail
  obtain ⟨w12, hw12⟩ : ∃ w12, w12 = w11.alloc (.cells #[.int .i64 0, .slice none 0 0, .slice none 0 0, .slice none 0 0] 26) := ⟨_, rfl⟩
  have hg12 : w11.grownBy w12 none := by rw [hw12]; exact gb_alloc (gb_refl w11 none) _
  have HBAn := hide (HBA.out.gb hg12)
  clear HBA
  have HBA := hide HBAn.out
  clear HBAn
  have HBBn := hide (HBB.out.gb hg12)
  clear HBB
  have HBB := hide HBBn.out
  clear HBBn
  have HGn := hide (gb_trans HG0.out hg12 (.inl rfl))
  clear HG0
  have HG0 := hide HGn.out
  clear HGn hg12
  have hs12 : w11.heap.size + 1 = w12.heap.size := by rw [hw12, World.size_alloc]
  rw [← hw12]
  try rw [hs12]
  clear hw12 hs12
  refine (ints_new [1, 2] _ rfl 2 rfl _ (by decide)).mono ?_
  rintro e w13 ⟨nA13, nc13, sA13, sc13, lA13, lc13, rfl, hv13, hg13⟩
  have HBAn := hide (HBA.out.gb hg13)
  clear HBA
  have HBA := hide HBAn.out
  clear HBAn
  have HBBn := hide (HBB.out.gb hg13)
  clear HBB
  have HBB := hide HBBn.out
  clear HBBn
  have HGn := hide (gb_trans HG0.out hg13 (.inl rfl))
  clear HG0
  have HG0 := hide HGn.out
  clear HGn hg13
  have HV13 := hide hv13
  clear hv13
  go_wp2_with fail
  refine (ints_new [1, 2, 3] _ rfl 3 rfl _ (by decide)).mono ?_
  rintro e w14 ⟨nA14, nc14, sA14, sc14, lA14, lc14, rfl, hv14, hg14⟩
  have HBAn := hide (HBA.out.gb hg14)
  clear HBA
  have HBA := hide HBAn.out
  clear HBAn
  have HBBn := hide (HBB.out.gb hg14)
  clear HBB
  have HBB := hide HBBn.out
  clear HBBn
  have HV13n := hide ((HV13.out.gb hg14 (Nat.le_refl _)).up hg14.size)
  clear HV13
  have HV13 := hide HV13n.out
  clear HV13n
  have HGn := hide (gb_trans HG0.out hg14 (.inl rfl))
  clear HG0
  have HG0 := hide HGn.out
  clear HGn hg14
  have HV14 := hide hv14
  clear hv14
  go_wp2_with fail
  have CD := do_add (Vl.mk (2) [1, 2] [] []) (Vl.mk (2) [1, 2, 3] [] []) _ _ nA13 nc13 sA13 sc13 lA13 lc13 nA14 nc14 sA14 sc14 lA14 lc14 iv12 iv123 (Nat.le_refl _) HV13.out HV14.out
  rw [ev4] at CD
  refine CD.mono ?_
  clear CD
  clear HV13
  clear HV14
  rintro e w15 ⟨hg15, rfl⟩
  have HBAn := hide (HBA.out.gb hg15)
  clear HBA
  have HBA := hide HBAn.out
  clear HBAn
  have HBBn := hide (HBB.out.gb hg15)
  clear HBB
  have HBB := hide HBBn.out
  clear HBBn
  have HGn := hide (gb_trans HG0.out hg15 (.inl rfl))
  clear HG0
  have HG0 := hide HGn.out
  clear HGn hg15
  go_wp2_with fail
  obtain ⟨w16, hw16⟩ : ∃ w16, w16 = w15.alloc (.cells #[.int .i64 0, .slice none 0 0, .slice none 0 0, .slice none 0 0] 26) := ⟨_, rfl⟩
  have hg16 : w15.grownBy w16 none := by rw [hw16]; exact gb_alloc (gb_refl w15 none) _
  have HBAn := hide (HBA.out.gb hg16)
  clear HBA
  have HBA := hide HBAn.out
  clear HBAn
  have HBBn := hide (HBB.out.gb hg16)
  clear HBB
  have HBB := hide HBBn.out
  clear HBBn
  have HGn := hide (gb_trans HG0.out hg16 (.inl rfl))
  clear HG0
  have HG0 := hide HGn.out
  clear HGn hg16
  have hs16 : w15.heap.size + 1 = w16.heap.size := by rw [hw16, World.size_alloc]
  rw [← hw16]
  try rw [hs16]
  clear hw16 hs16
  refine (ints_new [1, 2] _ rfl 2 rfl _ (by decide)).mono ?_
  rintro e w17 ⟨nA17, nc17, sA17, sc17, lA17, lc17, rfl, hv17, hg17⟩
  have HBAn := hide (HBA.out.gb hg17)
  clear HBA
  have HBA := hide HBAn.out
  clear HBAn
  have HBBn := hide (HBB.out.gb hg17)
  clear HBB
  have HBB := hide HBBn.out
  clear HBBn
  have HGn := hide (gb_trans HG0.out hg17 (.inl rfl))
  clear HG0
  have HG0 := hide HGn.out
  clear HGn hg17
  have HV17 := hide hv17
  clear hv17
  go_wp2_with fail
  have CT := take_ints (-3) 3 (Vl.mk (2) [1, 2] [] []) _ _ nA17 nc17 sA17 sc17 lA17 lc17 iv12 rfl (Nat.le_refl _) HV17.out (by decide) rfl
  rw [show (((rowI (min (-3) 0) 3).map fun p => remI p (((Vl.mk (2) [1, 2] [] []).n.length : Nat) : Int)).map (pickI (Vl.mk (2) [1, 2] [] []).n (-9223372036854775808))) = [2, 1, 2] from ev5] at CT
  refine CT.mono ?_
  clear CT
  clear HV17
  intro e w18 hd
  obtain ⟨nA18, nc18, rfl, hv18, hg18⟩ := DoR.lit 3 rfl hd
  clear hd
  have HBAn := hide (HBA.out.gb hg18)
  clear HBA
  have HBA := hide HBAn.out
  clear HBAn
  have HBBn := hide (HBB.out.gb hg18)
  clear HBB
  have HBB := hide HBBn.out
  clear HBBn
  have HGn := hide (gb_trans HG0.out hg18 (.inl rfl))
  clear HG0
  have HG0 := hide HGn.out
  clear HGn hg18
  have HB18 := hide (BoxV.new hv18)
  clear hv18
  go_wp2_with fail
  obtain ⟨w19, hw19⟩ : ∃ w19, w19 = w18.alloc (.cells #[.int .i64 2, .slice nA18 3 nc18, .slice none 0 0, .slice none 0 0] 26) := ⟨_, rfl⟩
  have hg19 : w18.grownBy w19 none := by rw [hw19]; exact gb_alloc (gb_refl w18 none) _
  have HBC : Hid (BoxV w19 w18.heap.size (Vl.mk (2) [2, 1, 2] [] [])) := hide (by rw [hw19]; exact HB18.out)
  clear HB18
  have HBAn := hide (HBA.out.gb hg19)
  clear HBA
  have HBA := hide HBAn.out
  clear HBAn
  have HBBn := hide (HBB.out.gb hg19)
  clear HBB
  have HBB := hide HBBn.out
  clear HBBn
  have HGn := hide (gb_trans HG0.out hg19 (.inl rfl))
  clear HG0
  have HG0 := hide HGn.out
  clear HGn hg19
  have hs19 : w18.heap.size + 1 = w19.heap.size := by rw [hw19, World.size_alloc]
  rw [← hw19]
  try rw [hs19]
  clear hw19 hs19
  refine (atom_new (1) _).mono ?_
  rintro e w20 ⟨nA20, nc20, sA20, sc20, lA20, lc20, rfl, hv20, hg20⟩
  have HBAn := hide (HBA.out.gb hg20)
  clear HBA
  have HBA := hide HBAn.out
  clear HBAn
  have HBBn := hide (HBB.out.gb hg20)
  clear HBB
  have HBB := hide HBBn.out
  clear HBBn
  have HBCn := hide (HBC.out.gb hg20)
  clear HBC
  have HBC := hide HBCn.out
  clear HBCn
  have HGn := hide (gb_trans HG0.out hg20 (.inl rfl))
  clear HG0
  have HG0 := hide HGn.out
  clear HGn hg20
  have HV20 := hide hv20
  clear hv20
  go_wp2_with fail
  refine (ints_new [2, 3] _ rfl 2 rfl _ (by decide)).mono ?_
  rintro e w21 ⟨nA21, nc21, sA21, sc21, lA21, lc21, rfl, hv21, hg21⟩
  have HBAn := hide (HBA.out.gb hg21)
  clear HBA
  have HBA := hide HBAn.out
  clear HBAn
  have HBBn := hide (HBB.out.gb hg21)
  clear HBB
  have HBB := hide HBBn.out
  clear HBBn
  have HBCn := hide (HBC.out.gb hg21)
  clear HBC
  have HBC := hide HBCn.out
  clear HBCn
  have HV20n := hide ((HV20.out.gb hg21 (Nat.le_refl _)).up hg21.size)
  clear HV20
  have HV20 := hide HV20n.out
  clear HV20n
  have HGn := hide (gb_trans HG0.out hg21 (.inl rfl))
  clear HG0
  have HG0 := hide HGn.out
  clear HGn hg21
  have HV21 := hide hv21
  clear hv21
  go_wp2_with fail
  have hrv := rdV_two HV20.out HV21.out
  obtain ⟨w22, hw22⟩ : ∃ w22, w22 = w21.alloc (.cells #[.int .i64 (-2), .slice nA20 1 nc20, .slice sA20 0 sc20, .slice lA20 0 lc20, .int .i64 2, .slice nA21 2 nc21, .slice sA21 0 sc21, .slice lA21 0 lc21] 26) := ⟨_, rfl⟩
  have hrv : RdV w22 w22.heap.size (some ⟨w21.heap.size, 0, none⟩) [(Vl.mk (-2) [1] [] []), (Vl.mk (2) [2, 3] [] [])] := by rw [hw22]; exact hrv
  have hg22 : w21.grownBy w22 none := by rw [hw22]; exact gb_alloc (gb_refl _ none) _
  clear HV20
  clear HV21
  have HBAn := hide (HBA.out.gb hg22)
  clear HBA
  have HBA := hide HBAn.out
  clear HBAn
  have HBBn := hide (HBB.out.gb hg22)
  clear HBB
  have HBB := hide HBBn.out
  clear HBBn
  have HBCn := hide (HBC.out.gb hg22)
  clear HBC
  have HBC := hide HBCn.out
  clear HBCn
  have HGn := hide (gb_trans HG0.out hg22 (.inl rfl))
  clear HG0
  have HG0 := hide HGn.out
  clear HGn hg22
  rw [← hw22]
  clear hw22
  have CJ := join_kind [(Vl.mk (-2) [1] [] []), (Vl.mk (2) [2, 3] [] [])] 2 [1, 2, 3] [] (hide rfl) (hide rfl) w22 w22.heap.size (some ⟨w21.heap.size, 0, none⟩) 2 (by decide) rfl (by decide) (by decide) (by decide) (by decide) (Nat.le_refl _) hrv
  refine CJ.mono ?_
  clear CJ hrv
  rintro e w23 ⟨nA23, nc23, sA23, sc23, lA23, lc23, f, he, ho, _, hg23⟩
  obtain rfl : e = .returned (.tuple #[.agg #[.int .i64 2, .slice nA23 3 nc23, .slice sA23 0 sc23, .slice lA23 0 lc23], .int .i64 0]) := he
  have hv23 := ho.vb
  clear ho
  have HBAn := hide (HBA.out.gb hg23)
  clear HBA
  have HBA := hide HBAn.out
  clear HBAn
  have HBBn := hide (HBB.out.gb hg23)
  clear HBB
  have HBB := hide HBBn.out
  clear HBBn
  have HBCn := hide (HBC.out.gb hg23)
  clear HBC
  have HBC := hide HBCn.out
  clear HBCn
  have HGn := hide (gb_trans HG0.out hg23 (.inl rfl))
  clear HG0
  have HG0 := hide HGn.out
  clear HGn hg23
  have HB23 := hide (BoxV.new hv23)
  clear hv23
  go_wp2_with fail
  obtain ⟨w24, hw24⟩ : ∃ w24, w24 = w23.alloc (.cells #[.int .i64 2, .slice nA23 3 nc23, .slice sA23 0 sc23, .slice lA23 0 lc23] 26) := ⟨_, rfl⟩
  have hg24 : w23.grownBy w24 none := by rw [hw24]; exact gb_alloc (gb_refl w23 none) _
  have HBD : Hid (BoxV w24 w23.heap.size (Vl.mk (2) [1, 2, 3] [] [])) := hide (by rw [hw24]; exact HB23.out)
  clear HB23
  have HBAn := hide (HBA.out.gb hg24)
  clear HBA
  have HBA := hide HBAn.out
  clear HBAn
  have HBBn := hide (HBB.out.gb hg24)
  clear HBB
  have HBB := hide HBBn.out
  clear HBBn
  have HBCn := hide (HBC.out.gb hg24)
  clear HBC
  have HBC := hide HBCn.out
  clear HBCn
  have HGn := hide (gb_trans HG0.out hg24 (.inl rfl))
  clear HG0
  have HG0 := hide HGn.out
  clear HGn hg24
  have hs24 : w23.heap.size + 1 = w24.heap.size := by rw [hw24, World.size_alloc]
  rw [← hw24]
  try rw [hs24]
  clear hw24 hs24
  refine wp_region_facts' 52 (by kernel_rfl) (by kernel_rfl) ?_
  intro A O W L HA HO HW HL
  simp only [List.take_succ_cons, List.take_zero]
  have HS := hide (show A.tmps.size = 108 by rw [HA.out]; rfl)
  have HGW := hide (show w24.grownBy W none by rw [HW.out]; exact gb_drew (gb_refl w24 none))
  have A1 := hide (show A.eval (.tmp 1) = .pointer (some ⟨w3.heap.size, 0, none⟩) by rw [HA.out]; rfl)
  have A3 := hide (show A.eval (.tmp 3) = .pointer (some ⟨w7.heap.size, 0, none⟩) by rw [HA.out]; rfl)
  have A9 := hide (show A.eval (.tmp 9) = .pointer (some ⟨w18.heap.size, 0, none⟩) by rw [HA.out]; rfl)
  have A11 := hide (show A.eval (.tmp 11) = .pointer (some ⟨w23.heap.size, 0, none⟩) by rw [HA.out]; rfl)
  have A2 := hide (show A.eval (.tmp 2) = .int .i64 0 by rw [HA.out]; rfl)
  have A4 := hide (show A.eval (.tmp 4) = .int .i64 0 by rw [HA.out]; rfl)
  have A6 := hide (show A.eval (.tmp 6) = .int .i64 70 by rw [HA.out]; rfl)
  have A8 := hide (show A.eval (.tmp 8) = .int .i64 32 by rw [HA.out]; rfl)
  have A10 := hide (show A.eval (.tmp 10) = .int .i64 0 by rw [HA.out]; rfl)
  have A12 := hide (show A.eval (.tmp 12) = .int .i64 0 by rw [HA.out]; rfl)
  -- slot 56
  refine wpFacts_step (ValF (Vl.mk (2) [11, 22] [] [])) rfl (ValF.up _) ?_ ?_
  · intro a wq hw hl
    have e1 : a.tmps[1]?.getD undef = .pointer (some ⟨w3.heap.size, 0, none⟩) := (hl 1 (by first | (simp [Op.operands]; done) | simp [Op.operands, Call.operands]) (by rw [HS.out]; decide)).trans A1.out
    obtain ⟨nA, nc, sA, sc, lA, lc, hb, hv⟩ := HBA.out.gb (gb_trans HGW.out hw (.inl rfl))
    have c0 : wq.cell? ⟨w3.heap.size, 0, none⟩ = some (.int .i64 2) := by rw [blk_cell hb]; rfl
    have c1 : wq.cell? ⟨w3.heap.size, 1, none⟩ = some (.slice nA 2 nc) := by rw [blk_cell hb]; rfl
    have c2 : wq.cell? ⟨w3.heap.size, 2, none⟩ = some (.slice sA 0 sc) := by rw [blk_cell hb]; rfl
    have c3 : wq.cell? ⟨w3.heap.size, 3, none⟩ = some (.slice lA 0 lc) := by rw [blk_cell hb]; rfl
    clear hb
    clear hl
    go_simp
    exact ⟨gb_refl _ none, nA, nc, sA, sc, lA, lc, rfl, hv⟩
  -- slot 57
  refine wpFacts_step (RowF w24.heap.size 2 #[.int .i64 11, .int .i64 22] 2) rfl (RowF.up _ _ _ _) ?_ ?_
  · intro a wq hw hl
    clear hl
    go_simp
    exact RowF.new _ _ (Nat.le_trans HGW.out.size hw.size)
  -- slot 58
  refine wpFacts_step (ValF (Vl.mk (2) [11, 22] [] [])) rfl (ValF.up _) ?_ ?_
  · intro a wq hw hl
    have h57 : (RowF w24.heap.size 2 #[.int .i64 11, .int .i64 22] 2) (a.tmps[57]?.getD undef) wq := hl 57 (by first | (simp [Op.operands]; done) | simp [Op.operands, Call.operands]) (by rw [HS.out]; decide)
    obtain ⟨rb, e57, hrb, _⟩ := h57
    clear hl
    go_simp
    refine ⟨gb_refl _ none, (ints7_any [11, 22] wq (some ⟨rb, 0, none⟩) 2 (by decide) (rd_blk hrb rfl)).mono fun _ _ h => ?_⟩
    obtain ⟨x9, h1, h2, h3⟩ := ValF.of_new h
    exact ⟨x9, h1, h2, h3⟩
  -- slot 59
  refine wpFacts_step (fun vq _ => vq = .bool true) rfl (Lit.up _) ?_ ?_
  · intro a wq hw hl
    have h56 : (ValF (Vl.mk (2) [11, 22] [] [])) (a.tmps[56]?.getD undef) wq := hl 56 (by first | (simp [Op.operands]; done) | simp [Op.operands, Call.operands]) (by rw [HS.out]; decide)
    obtain ⟨nA, nc, sA, sc, lA, lc, e56, hv⟩ := h56
    have h58 : (ValF (Vl.mk (2) [11, 22] [] [])) (a.tmps[58]?.getD undef) wq := hl 58 (by first | (simp [Op.operands]; done) | simp [Op.operands, Call.operands]) (by rw [HS.out]; decide)
    obtain ⟨mA, mc, tA, tc, kA, kc, e58, hv2⟩ := h58
    clear hl
    go_simp
    exact gUpon_lit ((rMatch_any (Vl.mk (2) [11, 22] [] []) (Vl.mk (2) [11, 22] [] []) wq wq.heap.size nA nc sA sc lA lc mA mc tA tc kA kc (by decide) (by decide) (Nat.le_refl _) hv hv2).mono fun _ _ h => ⟨h.1.trans (by rw [show Vl.same (Vl.mk (2) [11, 22] [] []) (Vl.mk (2) [11, 22] [] []) = true by decide]), h.2⟩)
  -- slot 60
  refine wpFacts_lit (.bool true) rfl ?_ ?_
  · intro a wq hw hl
    have e59 : a.tmps[59]?.getD undef = .bool true := hl 59 (by first | (simp [Op.operands]; done) | simp [Op.operands, Call.operands]) (by rw [HS.out]; decide)
    clear hl
    go_simp
  -- slot 61
  refine wpFacts_litG (.int .i64 0) 4 true 60 rfl (by rw [HO.out]; rfl) (by rw [HS.out]; decide) (fun _ _ h => h) ?_ ?_
  · intro a wq hw hl
    have e2 : a.tmps[2]?.getD undef = .int .i64 0 := (hl 2 (by first | (simp [Op.operands]; done) | simp [Op.operands, Call.operands]) (by rw [HS.out]; decide)).trans A2.out
    clear hl
    go_simp
  -- slot 62
  refine wpFacts_stepG (fun vq _ => vq = .int .i64 0) 4 true 60 rfl (by rw [HO.out]; rfl) (by rw [HS.out]; decide) (fun _ _ h => h) (Lit.up _) ?_ ?_
  · intro a wq hw hl
    have e61 : a.tmps[61]?.getD undef = .int .i64 0 := hl 61 (by first | (simp [Op.operands]; done) | simp [Op.operands, Call.operands]) (by rw [HS.out]; decide)
    clear hl
    go_simp
    exact gUpon_same (num7_any _ _)
  -- slot 63
  refine wpFacts_litG (.bool true) 4 true 60 rfl (by rw [HO.out]; rfl) (by rw [HS.out]; decide) (fun _ _ h => h) ?_ ?_
  · intro a wq hw hl
    have e62 : a.tmps[62]?.getD undef = .int .i64 0 := hl 62 (by first | (simp [Op.operands]; done) | simp [Op.operands, Call.operands]) (by rw [HS.out]; decide)
    clear hl
    go_simp
  -- slot 64
  refine wpFacts_lit (.bool true) rfl ?_ ?_
  · intro a wq hw hl
    have e60 : a.tmps[60]?.getD undef = .bool true := hl 60 (by first | (simp [Op.operands]; done) | simp [Op.operands, Call.operands]) (by rw [HS.out]; decide)
    have e63 : a.tmps[63]?.getD undef = .bool true := hl 63 (by first | (simp [Op.operands]; done) | simp [Op.operands, Call.operands]) (by rw [HS.out]; decide)
    clear hl
    go_simp
  -- slot 65
  refine wpFacts_lit (.bool true) rfl ?_ ?_
  · intro a wq hw hl
    have e64 : a.tmps[64]?.getD undef = .bool true := hl 64 (by first | (simp [Op.operands]; done) | simp [Op.operands, Call.operands]) (by rw [HS.out]; decide)
    clear hl
    go_simp
  -- slot 66
  refine wpFacts_stepG (ValF (Vl.mk (2) [-4] [] [])) 9 true 65 rfl (by rw [HO.out]; rfl) (by rw [HS.out]; decide) (fun _ _ h => h) (ValF.up _) ?_ ?_
  · intro a wq hw hl
    have e3 : a.tmps[3]?.getD undef = .pointer (some ⟨w7.heap.size, 0, none⟩) := (hl 3 (by first | (simp [Op.operands]; done) | simp [Op.operands, Call.operands]) (by rw [HS.out]; decide)).trans A3.out
    obtain ⟨nA, nc, sA, sc, lA, lc, hb, hv⟩ := HBB.out.gb (gb_trans HGW.out hw (.inl rfl))
    have c0 : wq.cell? ⟨w7.heap.size, 0, none⟩ = some (.int .i64 2) := by rw [blk_cell hb]; rfl
    have c1 : wq.cell? ⟨w7.heap.size, 1, none⟩ = some (.slice nA 1 nc) := by rw [blk_cell hb]; rfl
    have c2 : wq.cell? ⟨w7.heap.size, 2, none⟩ = some (.slice sA 0 sc) := by rw [blk_cell hb]; rfl
    have c3 : wq.cell? ⟨w7.heap.size, 3, none⟩ = some (.slice lA 0 lc) := by rw [blk_cell hb]; rfl
    clear hb
    clear hl
    go_simp
    exact ⟨gb_refl _ none, nA, nc, sA, sc, lA, lc, rfl, hv⟩
  -- slot 67
  refine wpFacts_stepG (RowF w24.heap.size 1 #[.int .i64 (-4)] 2) 9 true 65 rfl (by rw [HO.out]; rfl) (by rw [HS.out]; decide) (fun _ _ h => h) (RowF.up _ _ _ _) ?_ ?_
  · intro a wq hw hl
    clear hl
    go_simp
    exact RowF.new _ _ (Nat.le_trans HGW.out.size hw.size)
  -- slot 68
  refine wpFacts_stepG (ValF (Vl.mk (2) [-4] [] [])) 9 true 65 rfl (by rw [HO.out]; rfl) (by rw [HS.out]; decide) (fun _ _ h => h) (ValF.up _) ?_ ?_
  · intro a wq hw hl
    have h67 : (RowF w24.heap.size 1 #[.int .i64 (-4)] 2) (a.tmps[67]?.getD undef) wq := hl 67 (by first | (simp [Op.operands]; done) | simp [Op.operands, Call.operands]) (by rw [HS.out]; decide)
    obtain ⟨rb, e67, hrb, _⟩ := h67
    clear hl
    go_simp
    refine ⟨gb_refl _ none, (ints7_any [-4] wq (some ⟨rb, 0, none⟩) 1 (by decide) (rd_blk hrb rfl)).mono fun _ _ h => ?_⟩
    obtain ⟨x9, h1, h2, h3⟩ := ValF.of_new h
    exact ⟨x9, h1, h2, h3⟩
  -- slot 69
  refine wpFacts_stepG (fun vq _ => vq = .bool true) 9 true 65 rfl (by rw [HO.out]; rfl) (by rw [HS.out]; decide) (fun _ _ h => h) (Lit.up _) ?_ ?_
  · intro a wq hw hl
    have h66 : (ValF (Vl.mk (2) [-4] [] [])) (a.tmps[66]?.getD undef) wq := hl 66 (by first | (simp [Op.operands]; done) | simp [Op.operands, Call.operands]) (by rw [HS.out]; decide)
    obtain ⟨nA, nc, sA, sc, lA, lc, e66, hv⟩ := h66
    have h68 : (ValF (Vl.mk (2) [-4] [] [])) (a.tmps[68]?.getD undef) wq := hl 68 (by first | (simp [Op.operands]; done) | simp [Op.operands, Call.operands]) (by rw [HS.out]; decide)
    obtain ⟨mA, mc, tA, tc, kA, kc, e68, hv2⟩ := h68
    clear hl
    go_simp
    exact gUpon_lit ((rMatch_any (Vl.mk (2) [-4] [] []) (Vl.mk (2) [-4] [] []) wq wq.heap.size nA nc sA sc lA lc mA mc tA tc kA kc (by decide) (by decide) (Nat.le_refl _) hv hv2).mono fun _ _ h => ⟨h.1.trans (by rw [show Vl.same (Vl.mk (2) [-4] [] []) (Vl.mk (2) [-4] [] []) = true by decide]), h.2⟩)
  -- slot 70
  refine wpFacts_lit (.bool true) rfl ?_ ?_
  · intro a wq hw hl
    have e65 : a.tmps[65]?.getD undef = .bool true := hl 65 (by first | (simp [Op.operands]; done) | simp [Op.operands, Call.operands]) (by rw [HS.out]; decide)
    have e69 : a.tmps[69]?.getD undef = .bool true := hl 69 (by first | (simp [Op.operands]; done) | simp [Op.operands, Call.operands]) (by rw [HS.out]; decide)
    clear hl
    go_simp
  -- slot 71
  refine wpFacts_lit (.bool true) rfl ?_ ?_
  · intro a wq hw hl
    have e70 : a.tmps[70]?.getD undef = .bool true := hl 70 (by first | (simp [Op.operands]; done) | simp [Op.operands, Call.operands]) (by rw [HS.out]; decide)
    clear hl
    go_simp
  -- slot 72
  refine wpFacts_litG (.int .i64 0) 15 true 71 rfl (by rw [HO.out]; rfl) (by rw [HS.out]; decide) (fun _ _ h => h) ?_ ?_
  · intro a wq hw hl
    have e4 : a.tmps[4]?.getD undef = .int .i64 0 := (hl 4 (by first | (simp [Op.operands]; done) | simp [Op.operands, Call.operands]) (by rw [HS.out]; decide)).trans A4.out
    clear hl
    go_simp
  -- slot 73
  refine wpFacts_stepG (fun vq _ => vq = .int .i64 0) 15 true 71 rfl (by rw [HO.out]; rfl) (by rw [HS.out]; decide) (fun _ _ h => h) (Lit.up _) ?_ ?_
  · intro a wq hw hl
    have e72 : a.tmps[72]?.getD undef = .int .i64 0 := hl 72 (by first | (simp [Op.operands]; done) | simp [Op.operands, Call.operands]) (by rw [HS.out]; decide)
    clear hl
    go_simp
    exact gUpon_same (num7_any _ _)
  -- slot 74
  refine wpFacts_litG (.bool true) 15 true 71 rfl (by rw [HO.out]; rfl) (by rw [HS.out]; decide) (fun _ _ h => h) ?_ ?_
  · intro a wq hw hl
    have e73 : a.tmps[73]?.getD undef = .int .i64 0 := hl 73 (by first | (simp [Op.operands]; done) | simp [Op.operands, Call.operands]) (by rw [HS.out]; decide)
    clear hl
    go_simp
  -- slot 75
  refine wpFacts_lit (.bool true) rfl ?_ ?_
  · intro a wq hw hl
    have e71 : a.tmps[71]?.getD undef = .bool true := hl 71 (by first | (simp [Op.operands]; done) | simp [Op.operands, Call.operands]) (by rw [HS.out]; decide)
    have e74 : a.tmps[74]?.getD undef = .bool true := hl 74 (by first | (simp [Op.operands]; done) | simp [Op.operands, Call.operands]) (by rw [HS.out]; decide)
    clear hl
    go_simp
  -- slot 76
  refine wpFacts_lit (.bool true) rfl ?_ ?_
  · intro a wq hw hl
    have e75 : a.tmps[75]?.getD undef = .bool true := hl 75 (by first | (simp [Op.operands]; done) | simp [Op.operands, Call.operands]) (by rw [HS.out]; decide)
    clear hl
    go_simp
  -- slot 77
  refine wpFacts_litG (.int .i64 70) 20 true 76 rfl (by rw [HO.out]; rfl) (by rw [HS.out]; decide) (fun _ _ h => h) ?_ ?_
  · intro a wq hw hl
    have e6 : a.tmps[6]?.getD undef = .int .i64 70 := (hl 6 (by first | (simp [Op.operands]; done) | simp [Op.operands, Call.operands]) (by rw [HS.out]; decide)).trans A6.out
    clear hl
    go_simp
  -- slot 78
  refine wpFacts_stepG (fun vq _ => vq = .int .i64 70) 20 true 76 rfl (by rw [HO.out]; rfl) (by rw [HS.out]; decide) (fun _ _ h => h) (Lit.up _) ?_ ?_
  · intro a wq hw hl
    have e77 : a.tmps[77]?.getD undef = .int .i64 70 := hl 77 (by first | (simp [Op.operands]; done) | simp [Op.operands, Call.operands]) (by rw [HS.out]; decide)
    clear hl
    go_simp
    exact gUpon_same (num7_any _ _)
  -- slot 79
  refine wpFacts_litG (.bool true) 20 true 76 rfl (by rw [HO.out]; rfl) (by rw [HS.out]; decide) (fun _ _ h => h) ?_ ?_
  · intro a wq hw hl
    have e78 : a.tmps[78]?.getD undef = .int .i64 70 := hl 78 (by first | (simp [Op.operands]; done) | simp [Op.operands, Call.operands]) (by rw [HS.out]; decide)
    clear hl
    go_simp
  -- slot 80
  refine wpFacts_lit (.bool true) rfl ?_ ?_
  · intro a wq hw hl
    have e76 : a.tmps[76]?.getD undef = .bool true := hl 76 (by first | (simp [Op.operands]; done) | simp [Op.operands, Call.operands]) (by rw [HS.out]; decide)
    have e79 : a.tmps[79]?.getD undef = .bool true := hl 79 (by first | (simp [Op.operands]; done) | simp [Op.operands, Call.operands]) (by rw [HS.out]; decide)
    clear hl
    go_simp
  -- slot 81
  refine wpFacts_lit (.bool true) rfl ?_ ?_
  · intro a wq hw hl
    have e80 : a.tmps[80]?.getD undef = .bool true := hl 80 (by first | (simp [Op.operands]; done) | simp [Op.operands, Call.operands]) (by rw [HS.out]; decide)
    clear hl
    go_simp
  -- slot 82
  refine wpFacts_litG (.int .i64 32) 25 true 81 rfl (by rw [HO.out]; rfl) (by rw [HS.out]; decide) (fun _ _ h => h) ?_ ?_
  · intro a wq hw hl
    have e8 : a.tmps[8]?.getD undef = .int .i64 32 := (hl 8 (by first | (simp [Op.operands]; done) | simp [Op.operands, Call.operands]) (by rw [HS.out]; decide)).trans A8.out
    clear hl
    go_simp
  -- slot 83
  refine wpFacts_stepG (fun vq _ => vq = .int .i64 32) 25 true 81 rfl (by rw [HO.out]; rfl) (by rw [HS.out]; decide) (fun _ _ h => h) (Lit.up _) ?_ ?_
  · intro a wq hw hl
    have e82 : a.tmps[82]?.getD undef = .int .i64 32 := hl 82 (by first | (simp [Op.operands]; done) | simp [Op.operands, Call.operands]) (by rw [HS.out]; decide)
    clear hl
    go_simp
    exact gUpon_same (num7_any _ _)
  -- slot 84
  refine wpFacts_litG (.bool true) 25 true 81 rfl (by rw [HO.out]; rfl) (by rw [HS.out]; decide) (fun _ _ h => h) ?_ ?_
  · intro a wq hw hl
    have e83 : a.tmps[83]?.getD undef = .int .i64 32 := hl 83 (by first | (simp [Op.operands]; done) | simp [Op.operands, Call.operands]) (by rw [HS.out]; decide)
    clear hl
    go_simp
  -- slot 85
  refine wpFacts_lit (.bool true) rfl ?_ ?_
  · intro a wq hw hl
    have e81 : a.tmps[81]?.getD undef = .bool true := hl 81 (by first | (simp [Op.operands]; done) | simp [Op.operands, Call.operands]) (by rw [HS.out]; decide)
    have e84 : a.tmps[84]?.getD undef = .bool true := hl 84 (by first | (simp [Op.operands]; done) | simp [Op.operands, Call.operands]) (by rw [HS.out]; decide)
    clear hl
    go_simp
  -- slot 86
  refine wpFacts_lit (.bool true) rfl ?_ ?_
  · intro a wq hw hl
    have e85 : a.tmps[85]?.getD undef = .bool true := hl 85 (by first | (simp [Op.operands]; done) | simp [Op.operands, Call.operands]) (by rw [HS.out]; decide)
    clear hl
    go_simp
  -- slot 87
  refine wpFacts_stepG (ValF (Vl.mk (2) [2, 1, 2] [] [])) 30 true 86 rfl (by rw [HO.out]; rfl) (by rw [HS.out]; decide) (fun _ _ h => h) (ValF.up _) ?_ ?_
  · intro a wq hw hl
    have e9 : a.tmps[9]?.getD undef = .pointer (some ⟨w18.heap.size, 0, none⟩) := (hl 9 (by first | (simp [Op.operands]; done) | simp [Op.operands, Call.operands]) (by rw [HS.out]; decide)).trans A9.out
    obtain ⟨nA, nc, sA, sc, lA, lc, hb, hv⟩ := HBC.out.gb (gb_trans HGW.out hw (.inl rfl))
    have c0 : wq.cell? ⟨w18.heap.size, 0, none⟩ = some (.int .i64 2) := by rw [blk_cell hb]; rfl
    have c1 : wq.cell? ⟨w18.heap.size, 1, none⟩ = some (.slice nA 3 nc) := by rw [blk_cell hb]; rfl
    have c2 : wq.cell? ⟨w18.heap.size, 2, none⟩ = some (.slice sA 0 sc) := by rw [blk_cell hb]; rfl
    have c3 : wq.cell? ⟨w18.heap.size, 3, none⟩ = some (.slice lA 0 lc) := by rw [blk_cell hb]; rfl
    clear hb
    clear hl
    go_simp
    exact ⟨gb_refl _ none, nA, nc, sA, sc, lA, lc, rfl, hv⟩
  -- slot 88
  refine wpFacts_stepG (RowF w24.heap.size 3 #[.int .i64 2, .int .i64 1, .int .i64 2] 2) 30 true 86 rfl (by rw [HO.out]; rfl) (by rw [HS.out]; decide) (fun _ _ h => h) (RowF.up _ _ _ _) ?_ ?_
  · intro a wq hw hl
    clear hl
    go_simp
    exact RowF.new _ _ (Nat.le_trans HGW.out.size hw.size)
  -- slot 89
  refine wpFacts_stepG (ValF (Vl.mk (2) [2, 1, 2] [] [])) 30 true 86 rfl (by rw [HO.out]; rfl) (by rw [HS.out]; decide) (fun _ _ h => h) (ValF.up _) ?_ ?_
  · intro a wq hw hl
    have h88 : (RowF w24.heap.size 3 #[.int .i64 2, .int .i64 1, .int .i64 2] 2) (a.tmps[88]?.getD undef) wq := hl 88 (by first | (simp [Op.operands]; done) | simp [Op.operands, Call.operands]) (by rw [HS.out]; decide)
    obtain ⟨rb, e88, hrb, _⟩ := h88
    clear hl
    go_simp
    refine ⟨gb_refl _ none, (ints7_any [2, 1, 2] wq (some ⟨rb, 0, none⟩) 3 (by decide) (rd_blk hrb rfl)).mono fun _ _ h => ?_⟩
    obtain ⟨x9, h1, h2, h3⟩ := ValF.of_new h
    exact ⟨x9, h1, h2, h3⟩
  -- slot 90
  refine wpFacts_stepG (fun vq _ => vq = .bool true) 30 true 86 rfl (by rw [HO.out]; rfl) (by rw [HS.out]; decide) (fun _ _ h => h) (Lit.up _) ?_ ?_
  · intro a wq hw hl
    have h87 : (ValF (Vl.mk (2) [2, 1, 2] [] [])) (a.tmps[87]?.getD undef) wq := hl 87 (by first | (simp [Op.operands]; done) | simp [Op.operands, Call.operands]) (by rw [HS.out]; decide)
    obtain ⟨nA, nc, sA, sc, lA, lc, e87, hv⟩ := h87
    have h89 : (ValF (Vl.mk (2) [2, 1, 2] [] [])) (a.tmps[89]?.getD undef) wq := hl 89 (by first | (simp [Op.operands]; done) | simp [Op.operands, Call.operands]) (by rw [HS.out]; decide)
    obtain ⟨mA, mc, tA, tc, kA, kc, e89, hv2⟩ := h89
    clear hl
    go_simp
    exact gUpon_lit ((rMatch_any (Vl.mk (2) [2, 1, 2] [] []) (Vl.mk (2) [2, 1, 2] [] []) wq wq.heap.size nA nc sA sc lA lc mA mc tA tc kA kc (by decide) (by decide) (Nat.le_refl _) hv hv2).mono fun _ _ h => ⟨h.1.trans (by rw [show Vl.same (Vl.mk (2) [2, 1, 2] [] []) (Vl.mk (2) [2, 1, 2] [] []) = true by decide]), h.2⟩)
  -- slot 91
  refine wpFacts_lit (.bool true) rfl ?_ ?_
  · intro a wq hw hl
    have e86 : a.tmps[86]?.getD undef = .bool true := hl 86 (by first | (simp [Op.operands]; done) | simp [Op.operands, Call.operands]) (by rw [HS.out]; decide)
    have e90 : a.tmps[90]?.getD undef = .bool true := hl 90 (by first | (simp [Op.operands]; done) | simp [Op.operands, Call.operands]) (by rw [HS.out]; decide)
    clear hl
    go_simp
  -- slot 92
  refine wpFacts_lit (.bool true) rfl ?_ ?_
  · intro a wq hw hl
    have e91 : a.tmps[91]?.getD undef = .bool true := hl 91 (by first | (simp [Op.operands]; done) | simp [Op.operands, Call.operands]) (by rw [HS.out]; decide)
    clear hl
    go_simp
  -- slot 93
  refine wpFacts_litG (.int .i64 0) 36 true 92 rfl (by rw [HO.out]; rfl) (by rw [HS.out]; decide) (fun _ _ h => h) ?_ ?_
  · intro a wq hw hl
    have e10 : a.tmps[10]?.getD undef = .int .i64 0 := (hl 10 (by first | (simp [Op.operands]; done) | simp [Op.operands, Call.operands]) (by rw [HS.out]; decide)).trans A10.out
    clear hl
    go_simp
  -- slot 94
  refine wpFacts_stepG (fun vq _ => vq = .int .i64 0) 36 true 92 rfl (by rw [HO.out]; rfl) (by rw [HS.out]; decide) (fun _ _ h => h) (Lit.up _) ?_ ?_
  · intro a wq hw hl
    have e93 : a.tmps[93]?.getD undef = .int .i64 0 := hl 93 (by first | (simp [Op.operands]; done) | simp [Op.operands, Call.operands]) (by rw [HS.out]; decide)
    clear hl
    go_simp
    exact gUpon_same (num7_any _ _)
  -- slot 95
  refine wpFacts_litG (.bool true) 36 true 92 rfl (by rw [HO.out]; rfl) (by rw [HS.out]; decide) (fun _ _ h => h) ?_ ?_
  · intro a wq hw hl
    have e94 : a.tmps[94]?.getD undef = .int .i64 0 := hl 94 (by first | (simp [Op.operands]; done) | simp [Op.operands, Call.operands]) (by rw [HS.out]; decide)
    clear hl
    go_simp
  -- slot 96
  refine wpFacts_lit (.bool true) rfl ?_ ?_
  · intro a wq hw hl
    have e92 : a.tmps[92]?.getD undef = .bool true := hl 92 (by first | (simp [Op.operands]; done) | simp [Op.operands, Call.operands]) (by rw [HS.out]; decide)
    have e95 : a.tmps[95]?.getD undef = .bool true := hl 95 (by first | (simp [Op.operands]; done) | simp [Op.operands, Call.operands]) (by rw [HS.out]; decide)
    clear hl
    go_simp
  -- slot 97
  refine wpFacts_lit (.bool true) rfl ?_ ?_
  · intro a wq hw hl
    have e96 : a.tmps[96]?.getD undef = .bool true := hl 96 (by first | (simp [Op.operands]; done) | simp [Op.operands, Call.operands]) (by rw [HS.out]; decide)
    clear hl
    go_simp
  -- slot 98
  refine wpFacts_stepG (ValF (Vl.mk (2) [1, 2, 3] [] [])) 41 true 97 rfl (by rw [HO.out]; rfl) (by rw [HS.out]; decide) (fun _ _ h => h) (ValF.up _) ?_ ?_
  · intro a wq hw hl
    have e11 : a.tmps[11]?.getD undef = .pointer (some ⟨w23.heap.size, 0, none⟩) := (hl 11 (by first | (simp [Op.operands]; done) | simp [Op.operands, Call.operands]) (by rw [HS.out]; decide)).trans A11.out
    obtain ⟨nA, nc, sA, sc, lA, lc, hb, hv⟩ := HBD.out.gb (gb_trans HGW.out hw (.inl rfl))
    have c0 : wq.cell? ⟨w23.heap.size, 0, none⟩ = some (.int .i64 2) := by rw [blk_cell hb]; rfl
    have c1 : wq.cell? ⟨w23.heap.size, 1, none⟩ = some (.slice nA 3 nc) := by rw [blk_cell hb]; rfl
    have c2 : wq.cell? ⟨w23.heap.size, 2, none⟩ = some (.slice sA 0 sc) := by rw [blk_cell hb]; rfl
    have c3 : wq.cell? ⟨w23.heap.size, 3, none⟩ = some (.slice lA 0 lc) := by rw [blk_cell hb]; rfl
    clear hb
    clear hl
    go_simp
    exact ⟨gb_refl _ none, nA, nc, sA, sc, lA, lc, rfl, hv⟩
  -- slot 99
  refine wpFacts_stepG (RowF w24.heap.size 3 #[.int .i64 1, .int .i64 2, .int .i64 3] 2) 41 true 97 rfl (by rw [HO.out]; rfl) (by rw [HS.out]; decide) (fun _ _ h => h) (RowF.up _ _ _ _) ?_ ?_
  · intro a wq hw hl
    clear hl
    go_simp
    exact RowF.new _ _ (Nat.le_trans HGW.out.size hw.size)
  -- slot 100
  refine wpFacts_stepG (ValF (Vl.mk (2) [1, 2, 3] [] [])) 41 true 97 rfl (by rw [HO.out]; rfl) (by rw [HS.out]; decide) (fun _ _ h => h) (ValF.up _) ?_ ?_
  · intro a wq hw hl
    have h99 : (RowF w24.heap.size 3 #[.int .i64 1, .int .i64 2, .int .i64 3] 2) (a.tmps[99]?.getD undef) wq := hl 99 (by first | (simp [Op.operands]; done) | simp [Op.operands, Call.operands]) (by rw [HS.out]; decide)
    obtain ⟨rb, e99, hrb, _⟩ := h99
    clear hl
    go_simp
    refine ⟨gb_refl _ none, (ints7_any [1, 2, 3] wq (some ⟨rb, 0, none⟩) 3 (by decide) (rd_blk hrb rfl)).mono fun _ _ h => ?_⟩
    obtain ⟨x9, h1, h2, h3⟩ := ValF.of_new h
    exact ⟨x9, h1, h2, h3⟩
  -- slot 101
  refine wpFacts_stepG (fun vq _ => vq = .bool true) 41 true 97 rfl (by rw [HO.out]; rfl) (by rw [HS.out]; decide) (fun _ _ h => h) (Lit.up _) ?_ ?_
  · intro a wq hw hl
    have h98 : (ValF (Vl.mk (2) [1, 2, 3] [] [])) (a.tmps[98]?.getD undef) wq := hl 98 (by first | (simp [Op.operands]; done) | simp [Op.operands, Call.operands]) (by rw [HS.out]; decide)
    obtain ⟨nA, nc, sA, sc, lA, lc, e98, hv⟩ := h98
    have h100 : (ValF (Vl.mk (2) [1, 2, 3] [] [])) (a.tmps[100]?.getD undef) wq := hl 100 (by first | (simp [Op.operands]; done) | simp [Op.operands, Call.operands]) (by rw [HS.out]; decide)
    obtain ⟨mA, mc, tA, tc, kA, kc, e100, hv2⟩ := h100
    clear hl
    go_simp
    exact gUpon_lit ((rMatch_any (Vl.mk (2) [1, 2, 3] [] []) (Vl.mk (2) [1, 2, 3] [] []) wq wq.heap.size nA nc sA sc lA lc mA mc tA tc kA kc (by decide) (by decide) (Nat.le_refl _) hv hv2).mono fun _ _ h => ⟨h.1.trans (by rw [show Vl.same (Vl.mk (2) [1, 2, 3] [] []) (Vl.mk (2) [1, 2, 3] [] []) = true by decide]), h.2⟩)
  -- slot 102
  refine wpFacts_lit (.bool true) rfl ?_ ?_
  · intro a wq hw hl
    have e97 : a.tmps[97]?.getD undef = .bool true := hl 97 (by first | (simp [Op.operands]; done) | simp [Op.operands, Call.operands]) (by rw [HS.out]; decide)
    have e101 : a.tmps[101]?.getD undef = .bool true := hl 101 (by first | (simp [Op.operands]; done) | simp [Op.operands, Call.operands]) (by rw [HS.out]; decide)
    clear hl
    go_simp
  -- slot 103
  refine wpFacts_lit (.bool true) rfl ?_ ?_
  · intro a wq hw hl
    have e102 : a.tmps[102]?.getD undef = .bool true := hl 102 (by first | (simp [Op.operands]; done) | simp [Op.operands, Call.operands]) (by rw [HS.out]; decide)
    clear hl
    go_simp
  -- slot 104
  refine wpFacts_litG (.int .i64 0) 47 true 103 rfl (by rw [HO.out]; rfl) (by rw [HS.out]; decide) (fun _ _ h => h) ?_ ?_
  · intro a wq hw hl
    have e12 : a.tmps[12]?.getD undef = .int .i64 0 := (hl 12 (by first | (simp [Op.operands]; done) | simp [Op.operands, Call.operands]) (by rw [HS.out]; decide)).trans A12.out
    clear hl
    go_simp
  -- slot 105
  refine wpFacts_stepG (fun vq _ => vq = .int .i64 0) 47 true 103 rfl (by rw [HO.out]; rfl) (by rw [HS.out]; decide) (fun _ _ h => h) (Lit.up _) ?_ ?_
  · intro a wq hw hl
    have e104 : a.tmps[104]?.getD undef = .int .i64 0 := hl 104 (by first | (simp [Op.operands]; done) | simp [Op.operands, Call.operands]) (by rw [HS.out]; decide)
    clear hl
    go_simp
    exact gUpon_same (num7_any _ _)
  -- slot 106
  refine wpFacts_litG (.bool true) 47 true 103 rfl (by rw [HO.out]; rfl) (by rw [HS.out]; decide) (fun _ _ h => h) ?_ ?_
  · intro a wq hw hl
    have e105 : a.tmps[105]?.getD undef = .int .i64 0 := hl 105 (by first | (simp [Op.operands]; done) | simp [Op.operands, Call.operands]) (by rw [HS.out]; decide)
    clear hl
    go_simp
  -- slot 107
  refine wpFacts_lit (.bool true) rfl ?_ ?_
  · intro a wq hw hl
    have e103 : a.tmps[103]?.getD undef = .bool true := hl 103 (by first | (simp [Op.operands]; done) | simp [Op.operands, Call.operands]) (by rw [HS.out]; decide)
    have e106 : a.tmps[106]?.getD undef = .bool true := hl 106 (by first | (simp [Op.operands]; done) | simp [Op.operands, Call.operands]) (by rw [HS.out]; decide)
    clear hl
    go_simp
  refine HL.out _ (fun a' wz hc => ?_)
  have e107 : a'.eval (.tmp 107) = .bool true := hc.fact 107 (by rw [HS.out]; decide)
  have hgwz := gb_trans HGW.out hc.grown (.inl rfl)
  have hfr := hc.frame [56, 57, 58, 59, 60, 61, 62, 63, 64, 65, 66, 67, 68, 69, 70, 71, 72, 73, 74, 75, 76, 77, 78, 79, 80, 81, 82, 83, 84, 85, 86, 87, 88, 89, 90, 91, 92, 93, 94, 95, 96, 97, 98, 99, 100, 101, 102, 103, 104, 105, 106, 107, 0] (by rw [HO.out]; kernel_rfl)
  rw [hfr]
  clear hfr hc
  rw [HA.out]
  clear HA HO HL HW HS HGW A1 A3 A9 A11 A2 A4 A6 A8 A10 A12
  clear A O W L
  simp only [List.drop_succ_cons, List.drop_zero, List.foldl_cons, List.foldl_nil, Act.put, List.setIfInBounds_toArray, List.set_cons_succ, List.set_cons_zero]
  rw [e107]
  generalize a'.eval (.tmp 56) = x56
  generalize a'.eval (.tmp 57) = x57
  generalize a'.eval (.tmp 58) = x58
  generalize a'.eval (.tmp 59) = x59
  generalize a'.eval (.tmp 60) = x60
  generalize a'.eval (.tmp 61) = x61
  generalize a'.eval (.tmp 62) = x62
  generalize a'.eval (.tmp 63) = x63
  generalize a'.eval (.tmp 64) = x64
  generalize a'.eval (.tmp 65) = x65
  generalize a'.eval (.tmp 66) = x66
  generalize a'.eval (.tmp 67) = x67
  generalize a'.eval (.tmp 68) = x68
  generalize a'.eval (.tmp 69) = x69
  generalize a'.eval (.tmp 70) = x70
  generalize a'.eval (.tmp 71) = x71
  generalize a'.eval (.tmp 72) = x72
  generalize a'.eval (.tmp 73) = x73
  generalize a'.eval (.tmp 74) = x74
  generalize a'.eval (.tmp 75) = x75
  generalize a'.eval (.tmp 76) = x76
  generalize a'.eval (.tmp 77) = x77
  generalize a'.eval (.tmp 78) = x78
  generalize a'.eval (.tmp 79) = x79
  generalize a'.eval (.tmp 80) = x80
  generalize a'.eval (.tmp 81) = x81
  generalize a'.eval (.tmp 82) = x82
  generalize a'.eval (.tmp 83) = x83
  generalize a'.eval (.tmp 84) = x84
  generalize a'.eval (.tmp 85) = x85
  generalize a'.eval (.tmp 86) = x86
  generalize a'.eval (.tmp 87) = x87
  generalize a'.eval (.tmp 88) = x88
  generalize a'.eval (.tmp 89) = x89
  generalize a'.eval (.tmp 90) = x90
  generalize a'.eval (.tmp 91) = x91
  generalize a'.eval (.tmp 92) = x92
  generalize a'.eval (.tmp 93) = x93
  generalize a'.eval (.tmp 94) = x94
  generalize a'.eval (.tmp 95) = x95
  generalize a'.eval (.tmp 96) = x96
  generalize a'.eval (.tmp 97) = x97
  generalize a'.eval (.tmp 98) = x98
  generalize a'.eval (.tmp 99) = x99
  generalize a'.eval (.tmp 100) = x100
  generalize a'.eval (.tmp 101) = x101
  generalize a'.eval (.tmp 102) = x102
  generalize a'.eval (.tmp 103) = x103
  generalize a'.eval (.tmp 104) = x104
  generalize a'.eval (.tmp 105) = x105
  generalize a'.eval (.tmp 106) = x106
  generalize a'.eval (.tmp 0) = x0
  clear e107
  clear a'
  have HGZ := hide (gb_trans HG0.out hgwz (.inl rfl))
  clear hgwz
  go_wp2_with fail
  exact bodyPost_ret (v := .bool true) (by simp [results, Tryz.results7, go_sem]) rfl ⟨rfl, HGZ.out⟩
end Go.Proofs.YtnilcnobngcbgaaGreat
