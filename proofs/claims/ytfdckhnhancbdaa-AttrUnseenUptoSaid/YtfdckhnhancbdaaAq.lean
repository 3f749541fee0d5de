/-
  The attr laws' live: it tells true.
-/
import Derived.Test.YtfdckhnhancbdaaAp
namespace Go.Proofs.Ytfdckhnhancbdaa
open Go.RowKit
attribute [local go_sem ↓] Go.wp_at_zero Go.wp_at_succ

theorem rd_lit (w : World) (cs : Array Value) (t : TypeId) (xs : List Value) (h : xs = cs.toList) : Rd (w.alloc (.cells cs t)) (w.alloc (.cells cs t)).heap.size (some ⟨w.heap.size, 0, none⟩) xs :=
  (Rd.new w cs t xs h).more (by rw [World.size_alloc]; exact Nat.le_refl _)
theorem VB.keepUp {w w' : World} {v : Vl} {nA : Option Addr} {nc : Nat} {sA : Option Addr} {sc : Nat} {lA : Option Addr} {lc : Nat} (h : VB w w.heap.size v nA nc sA sc lA lc) (hg : w.grownBy w' none) : VB w' w'.heap.size v nA nc sA sc lA lc :=
  have h1 := h.gb hg (Nat.le_refl _)
  ⟨h1.n.more hg.size, h1.s.more hg.size, h1.l.up hg.size, h1.hn, h1.hs, h1.hl⟩
/-- A vector of ints, laid out. -/
def IntsP (l : List Int) (n : Nat) (w : World) (e : Ending) (w' : World) : Prop :=
  ∃ nA nc sA sc lA lc, e = .returned (.agg #[.int .i64 2, .slice nA n nc, .slice sA 0 sc, .slice lA 0 lc]) ∧ VB w' w'.heap.size (.mk 2 l [] []) nA nc sA sc lA lc ∧ w.grownBy w' none
theorem ints_lit (l : List Int) (cs : Array Value) (hcs : i64s l = cs.toList) (n : Nat) (hn : l.length = n) (w : World) (hl : l.length ≤ 1000) :
    Calls Try.prog 31 #[.slice (some ⟨w.heap.size, 0, none⟩) n n] (w.alloc (.cells cs 2)) (IntsP l n w) := by
  subst hn
  refine (ints_any l _ _ _ (by omega) (rd_lit w cs _ _ hcs)).mono ?_
  rintro e w' ⟨nA, nc, sA, sc, lA, lc, he, hv, hg, _⟩
  exact ⟨nA, nc, sA, sc, lA, lc, he, hv, gb_trans (gb_alloc (gb_refl w none) _) hg (.inl rfl)⟩
theorem keysV_ints (l : List Int) : keysV (.mk 2 l [] []) = l.map fun x => (x, noS) := by
  unfold keysV
  rw [if_neg (by show ¬ ((2 : Int) = 3 ∨ (2 : Int) = -3); decide)]
  rfl
theorem cmpS_self (s : ByteArray) : cmpS s s = 0 := (cmpS_all.same s s).2 rfl
theorem cmpK_num (a b : Int) : cmpK (a, noS) (b, noS) = cmpI a b := by
  unfold cmpK
  by_cases h : cmpI a b = 0
  · rw [if_pos h, cmpS_self, h]
  · rw [if_neg h]
def eS : List (Int × ByteArray) := [(1, noS), (3, noS), (3, noS), (7, noS)]
theorem holds_1 : holdsK 1 eS = true := by
  simp [holdsK, fallsK, fallAt, eS, List.range_succ, cmpK_num, cmpI, bI]
theorem holds_2 : holdsK 1 [((2 : Int), noS), (1, noS)] = false := by
  simp [holdsK, fallsK, fallAt, List.range_succ, cmpK_num, cmpI, bI]
theorem holds_3 : holdsK 1 (eS ++ [(9, noS)]) = true := by
  simp [holdsK, fallsK, fallAt, eS, List.range_succ, cmpK_num, cmpI, bI]
theorem holds_4 : holdsK 1 (eS ++ [(9, noS)] ++ [(8, noS)]) = false := by
  simp [holdsK, fallsK, fallAt, eS, List.range_succ, cmpK_num, cmpI, bI]
theorem places_3 : places eS (3, noS) = [1, 2] := by
  simp [places, eS, List.range_succ]
set_option maxHeartbeats 4000000 in
set_option maxRecDepth 100000 in
theorem live_any (w : World) : Calls Try.prog 8 #[] w fun e w' => e = .returned (.bool true) ∧ w.grownBy w' none := by
  go_enter Try.func8, Try.ntmps8
  go_wp2_with fail
  refine (ints_lit [1, 3, 3, 7] _ rfl 4 rfl _ (by decide)).mono ?_
  rintro e w1 ⟨nA1, nc1, sA1, sc1, lA1, lc1, rfl, hv1, hg1⟩
  have HB1 := hide (build_any 1 (.inr (.inl rfl)) (.mk 2 [1, 3, 3, 7] [] []) ⟨by decide, by decide⟩ nA1 nc1 sA1 sc1 lA1 lc1 0 w1 hv1.n hv1.s ⟨by decide, by decide⟩)
  have HG1 := hide hg1
  clear hv1 hg1
  go_wp2_with fail
  refine HB1.out.mono ?_
  rintro e w2 ⟨hg2, hb2⟩
  rw [keysV_ints] at hb2
  rw [if_pos (show holdsK 1 ([1, 3, 3, 7].map fun x => (x, noS)) = true from holds_1)] at hb2
  obtain ⟨f, g, rfl, hI2⟩ := hb2
  have HI2 := hide (show IxF w2 w1.heap.size f g 1 2 eS from hI2)
  have HG2 := hide (gb_trans HG1.out hg2 (.inl rfl))
  have HF := hide (fun x (hx : x ∈ f) => Nat.le_trans HG1.out.size (hI2.lt x hx).1)
  have HGF : Hid (g ∈ f) := hide (by obtain ⟨_, _, _, hI⟩ := hI2; rw [hI.foot]; simp)
  clear hg2 hI2 HB1
  go_wp2_with fail
  refine (ints_lit [2, 1] _ rfl 2 rfl _ (by decide)).mono ?_
  rintro e w3 ⟨nA3, nc3, sA3, sc3, lA3, lc3, rfl, hv3, hg3⟩
  have HB3 := hide (build_any 1 (.inr (.inl rfl)) (.mk 2 [2, 1] [] []) ⟨by decide, by decide⟩ nA3 nc3 sA3 sc3 lA3 lc3 0 w3 hv3.n hv3.s ⟨by decide, by decide⟩)
  have HI3 := hide (HI2.out.gb hg3)
  have HG3 := hide (gb_trans HG2.out hg3 (.inl rfl))
  clear hv3 hg3 HI2
  go_wp2_with fail
  refine HB3.out.mono ?_
  rintro e w4 ⟨hg4, hb4⟩
  rw [keysV_ints] at hb4
  rw [if_neg (show ¬ holdsK 1 ([2, 1].map fun x => (x, noS)) = true from by rw [show ([2, 1].map fun x : Int => (x, noS)) = [((2 : Int), noS), (1, noS)] from rfl, holds_2]; decide)] at hb4
  obtain rfl := hb4
  have HI4 := hide (HI3.out.gb hg4)
  have HG4 := hide (gb_trans HG3.out hg4 (.inl rfl))
  clear hg4 HB3 HI3
  go_wp2_with (go_at_call 12; refine (num_any _ _).mono ?_; rintro e wn ⟨rfl, rfl⟩)
  refine (atom_any 3 w4).mono ?_
  rintro e w5 ⟨nA5, nc5, sA5, sc5, lA5, lc5, rfl, hv5, hg5, _⟩
  have HFI := hide (find_ok w1.heap.size g f 1 2 eS (.mk (-2) [3] [] []) (3, noS) rfl rfl ⟨by decide, by decide⟩ nA5 nc5 sA5 sc5 lA5 lc5 0 w5 (HI4.out.gb hg5) hv5.n hv5.s ⟨by decide, by decide⟩ (by decide))
  rw [places_3] at HFI
  have HI5 := hide (HI4.out.gb hg5)
  have HG5 := hide (gb_trans HG4.out hg5 (.inl rfl))
  clear hv5 hg5 HI4
  go_wp2_with fail
  refine HFI.out.mono ?_
  rintro e w6 ⟨A6, c6, rfl, hr6, hg6, ha6⟩
  have HI6 := hide (HI5.out.gb hg6)
  have HG6 := hide (gb_trans HG5.out hg6 (.inl rfl))
  have HR6 := hide hr6
  have HA6 : Hid (∀ ad, A6 = some ad → (∀ x ∈ f, x < ad.block) ∧ ad.block < w6.heap.size) := hide (fun ad ha => ⟨fun x hx => by
      have h1 := (HI5.out.lt x hx).2
      have h2 := ha6 ad ha (by decide)
      omega, by
      obtain ⟨ad', e1, e2, _⟩ := hr6 (by simp [nts])
      rw [ha] at e1
      cases e1
      exact e2⟩)
  clear hr6 hg6 ha6 HFI HI5
  go_wp2_with fail
  refine (ints_lit [9] _ rfl 1 rfl _ (by decide)).mono ?_
  rintro e w7 ⟨nA7, nc7, sA7, sc7, lA7, lc7, rfl, hv7, hg7⟩
  have HAP := hide (append_any w1.heap.size g f 1 (.inr (.inl rfl)) eS (.mk 2 [9] [] []) nA7 nc7 sA7 sc7 lA7 lc7 0 w7 (HI6.out.gb hg7) hv7.n hv7.s ⟨by decide, by decide⟩ (by decide) (Nat.le_trans (Nat.le_trans (Nat.le_of_lt (Nat.lt_of_le_of_lt (HI6.out.lt g HGF.out).1 (HI6.out.lt g HGF.out).2)) hg7.size) (Nat.le_refl _)) true (by rw [keysV_ints]; rfl))
  rw [keysV_ints] at HAP
  have HI7 := hide (HI6.out.gb hg7)
  have HG7 := hide (gb_trans HG6.out hg7 (.inl rfl))
  have HR7 := hide ((HR6.out.grown hg7 (Nat.le_refl _) (by simp)).more hg7.size)
  have HS7 := hide hg7.size
  clear hv7 hg7 HI6 HR6
  go_wp2_with fail
  refine HAP.out.mono ?_
  intro e w8 hp
  obtain ⟨f8, rfl, hI8, hw8, hf8⟩ := hp.1 (by first | rfl | trivial)
  rw [show holdsK 1 (eS ++ [9].map fun x : Int => (x, noS)) = true from holds_3] at hI8 ⊢
  have HI8 := hide (show IxF w8 w1.heap.size f8 g 1 2 (eS ++ [(9, noS)]) from hI8)
  have HG8 := hide (hw8.gb HG7.out HF.out)
  have HF8 := hide (fun x (hx : x ∈ f8) => (hf8 x hx).elim (HF.out x) fun h => Nat.le_trans HG7.out.size h)
  have HR8 := hide ((hw8.rd HR7.out (fun ad ha _ hm => by have := (HA6.out ad ha).1 _ hm; omega) (Nat.le_refl _)).more hw8.size)
  have HA8 : Hid (∀ ad, A6 = some ad → (∀ x ∈ f8, x ≠ ad.block) ∧ ad.block < w8.heap.size) := hide (fun ad ha => ⟨fun x hx => by
      obtain ⟨h1, h2⟩ := HA6.out ad ha
      have h3 := HS7.out
      rcases hf8 x hx with h | h
      · have := h1 x h; omega
      · omega, by
      have h2 := (HA6.out ad ha).2
      have h3 := HS7.out
      have h4 := hw8.size
      omega⟩)
  have HGF8 : Hid (g ∈ f8) := hide (by obtain ⟨_, _, _, hI⟩ := hI8; rw [hI.foot]; simp)
  clear hI8 hw8 hf8 hp HAP HI7 HR7
  go_wp2_with fail
  refine (ints_lit [8] _ rfl 1 rfl _ (by decide)).mono ?_
  rintro e w9 ⟨nA9, nc9, sA9, sc9, lA9, lc9, rfl, hv9, hg9⟩
  have HAP := hide (append_any w1.heap.size g f8 1 (.inr (.inl rfl)) (eS ++ [(9, noS)]) (.mk 2 [8] [] []) nA9 nc9 sA9 sc9 lA9 lc9 0 w9 (HI8.out.gb hg9) hv9.n hv9.s ⟨by decide, by decide⟩ (by decide) (Nat.le_trans (Nat.le_of_lt (Nat.lt_of_le_of_lt (HI8.out.lt g HGF8.out).1 (HI8.out.lt g HGF8.out).2)) hg9.size) true (by rw [keysV_ints]; rfl))
  rw [keysV_ints] at HAP
  have HG9 := hide (gb_trans HG8.out hg9 (.inl rfl))
  have HR9 := hide ((HR8.out.grown hg9 (Nat.le_refl _) (by simp)).more hg9.size)
  have HS9 := hide hg9.size
  clear hv9 hg9 HI8 HR8
  go_wp2_with fail
  refine HAP.out.mono ?_
  intro e w10 hp
  obtain ⟨f10, rfl, hI10, hw10, hf10⟩ := hp.1 (by first | rfl | trivial)
  rw [show holdsK 1 (eS ++ [(9, noS)] ++ [8].map fun x : Int => (x, noS)) = false from holds_4] at hI10 ⊢
  have HI10 := hide (show IxF w10 w1.heap.size f10 g 0 2 (eS ++ [(9, noS)] ++ [(8, noS)]) from hI10)
  have HG10 := hide (hw10.gb HG9.out HF8.out)
  have HR10 := hide ((hw10.rd HR9.out (fun ad ha _ hm => (HA8.out ad ha).1 _ hm rfl) (Nat.le_refl _)).more hw10.size)
  clear hI10 hw10 hf10 hp HAP HR9
  go_wp2_with fail
  obtain ⟨w11, hw11⟩ : ∃ w11, w11 = w10.alloc (.cells #[.int .i64 1, .int .i64 2] 3) := ⟨_, rfl⟩
  have hg11 : w10.grownBy w11 none := by rw [hw11]; exact gb_alloc (gb_refl w10 none) _
  have hr11 : Rd w11 w11.heap.size (some ⟨w10.heap.size, 0, none⟩) (nts [1, 2]) := by rw [hw11]; exact rd_lit w10 _ _ _ rfl
  rw [← hw11]
  have HSN := hide (sameN_any [1, 2] [1, 2] A6 (some ⟨w10.heap.size, 0, none⟩) c6 2 w11.heap.size w11 ((HR10.out.grown hg11 (Nat.le_refl _) (by simp)).more hg11.size) hr11 (by decide))
  have HI11 := hide (HI10.out.gb hg11)
  have HG11 := hide (gb_trans HG10.out hg11 (.inl rfl))
  clear hw11 hg11 hr11 HI10 HR10
  refine HSN.out.mono ?_
  rintro e w12 ⟨rfl, hg12⟩
  have HI12 := hide (HI11.out.gb hg12)
  have HG12 := hide (gb_trans HG11.out hg12 (.inl rfl))
  have HKI := hide (kind_any w1.heap.size g f10 0 2 (eS ++ [(9, noS)] ++ [(8, noS)]) w12 (HI11.out.gb hg12))
  have HVE := hide (vectorN_ix w1.heap.size g f10 0 2 (by decide) (eS ++ [(9, noS)] ++ [(8, noS)]) w12 (HI11.out.gb hg12) (by decide))
  clear hg12 HSN HI11
  go_wp2_with (first
    | (go_at_call 12; refine (num_any _ _).mono ?_; rintro e wn ⟨rfl, rfl⟩)
    | (go_at_call 20; refine HKI.out.mono ?_; rintro e wn ⟨rfl, rfl⟩))
  refine HVE.out.mono ?_
  rintro e w13 ⟨A13, c13, rfl, hv13, hg13, _⟩
  have HV13 := hide (show VB w13 w13.heap.size (.mk 2 [1, 3, 3, 7, 9, 8] [] []) A13 c13 none 0 none 0 from hv13)
  have HG13 := hide (gb_trans HG12.out hg13 (.inl rfl))
  clear hv13 hg13 HVE HI12
  go_wp2_with fail
  refine (ints_lit [1, 3, 3, 7, 9, 8] _ rfl 6 rfl _ (by decide)).mono ?_
  rintro e w14 ⟨nA14, nc14, sA14, sc14, lA14, lc14, rfl, hv14, hg14⟩
  have HMA := hide (rMatch_any (.mk 2 [1, 3, 3, 7, 9, 8] [] []) (.mk 2 [1, 3, 3, 7, 9, 8] [] []) w14 w14.heap.size A13 c13 none 0 none 0 nA14 nc14 sA14 sc14 lA14 lc14 (by decide) (by decide) (Nat.le_refl _) (HV13.out.keepUp hg14) hv14)
  rw [Vl.same_refl] at HMA
  have HG14 := hide (gb_trans HG13.out hg14 (.inl rfl))
  clear hv14 hg14 HV13
  go_wp2_with fail
  refine HMA.out.mono ?_
  rintro e w15 ⟨rfl, hg15⟩
  have HG15 := hide (gb_trans HG14.out hg15 (.inl rfl))
  clear hg15 HMA
  go_wp2_with fail
  go_ret
  exact ⟨rfl, HG15.out⟩
end Go.Proofs.Ytfdckhnhancbdaa
