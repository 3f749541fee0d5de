/-
  vec.rule.do of ints and vectors of ints.
-/
import Derived.Test.YtgepejnooghjbaaGreatQah

namespace Go.Proofs.YtgepejnooghjbaaGreat
open Go.RowKit
attribute [local go_sem ↓] Go.wp_at_zero Go.wp_at_succ

/-- The numbers from a on, m of them. -/
def rowI (a : Int) : Nat → List Int
  | 0 => []
  | m + 1 => rowI a m ++ [a + (m : Int)]
theorem rowI_length (a : Int) (m : Nat) : (rowI a m).length = m := by
  induction m with
  | zero => rfl
  | succ m ih => simp [rowI, ih]
/-- What a function gives that makes a row of ints of its own. -/
def IntsR (l : List Int) (w : World) (e : Ending) (w' : World) : Prop := w.grownBy w' none ∧ ∃ A c, l.length ≤ c ∧ e = .returned (.slice A l.length c) ∧ w'.ownsRow w.heap.size 2 1 (.slice A l.length c) l.length (i64s l)

set_option maxHeartbeats 4000000 in
set_option maxRecDepth 100000 in
theorem rowG_any (a b : Int) (m : Nat) (hm : b - a = (m : Int)) (h1 : m ≤ 1100000) (ha : (-1000000000 ≤ a ∧ a ≤ 1000000000) ∨ m = 0) (w : World) :
    Calls Tryz.prog 68 #[.int .i64 a, .int .i64 b] w fun e w' => e = .returned (.slice (some ⟨w.heap.size, 0, none⟩) m m) ∧ w.grownBy w' none ∧ w'.ownsRow w.heap.size 2 1 (.slice (some ⟨w.heap.size, 0, none⟩) m m) m (i64s (rowI a m)) := by
  obtain ⟨i1, hi1, hiz, his, hib⟩ := info_parts Tryz.info64
  obtain ⟨w0, hmk, hown, hg0⟩ := run_make_full (P := Tryz.prog) w w.heap.size 22 2 i1 (.int .i64 0) 1 Tryz.underlying22 hi1 hiz his .i64 .i64 m (by rw [hib]; omega) (by unfold maxLen; omega) (Nat.le_refl _)
  rw [show (madeCells (Value.int .i64 0).cells (m * 1)).toList = List.replicate m (.int .i64 0) by rw [Nat.mul_one]; exact toList_madeCells_one _ m] at hown
  have hsub : IntKind.i64.wrap (b - a) = (m : Int) := by rw [hm, IntKind.wrap_i64]; omega
  have HOWN := hide hown
  have HG0 := hide hg0
  have HCL := hide h1
  have HA := hide ha
  clear hown hg0 h1 ha hm hi1 hiz his hib
  go_enter Tryz.func68, Tryz.ntmps68
  go_wp2_with fail
  go_loopw [13] (fun i wr => ∃ j : Nat, i = .int .i64 (j : Int) ∧ j ≤ m ∧
    wr.ownsRow w.heap.size 2 1 (.slice (some ⟨w.heap.size, 0, none⟩) m m) m (i64s (rowI a j) ++ List.replicate (m - j) (.int .i64 0)) ∧ w.grownBy wr none) (fun i _ => m - (intOf i).toNat)
  case atStart => exact ⟨0, rfl, Nat.zero_le _, by simpa [i64s, rowI] using HOWN.out, HG0.out⟩
  case round =>
    obtain ⟨j, rfl, hj, how, hgr⟩ := hrel
    by_cases hlt : j < m
    · have hlt1 : (j : Int) < (m : Int) := by omega
      have h6 : IntKind.i64.wrap ((j : Int) + 1) = ((j + 1 : Nat) : Int) := by rw [IntKind.wrap_i64]; have := HCL.out; omega
      have h7 : IntKind.i64.wrap (a + (j : Int)) = a + (j : Int) := by rw [IntKind.wrap_i64]; have := HCL.out; have := HA.out; omega
      have HO5 := hide how
      have HGR := hide hgr
      have HLT := hide hlt
      have c5 := how.cellAt j (by omega)
      rw [List.getElem?_append_right (by simp [i64s, rowI_length]), show (i64s (rowI a j)).length = j by simp [i64s, rowI_length], Nat.sub_self, List.getElem?_replicate, if_pos (by omega)] at c5
      have z5 := how.frozenAt j
      clear how hgr hlt hj
      go_wp2_with fail
      go_roundw
      case rel =>
        have hlt := HLT.out
        refine ⟨j + 1, by go_num, by omega, ?_, gb_setCell HGR.out (.inr (Nat.le_refl _)) _⟩
        have h1 := (HO5.out.stored j (.int .i64 (a + (j : Int)))).1
        obtain ⟨k, hk⟩ : ∃ k, m - j = k + 1 := ⟨m - j - 1, by omega⟩
        rw [hk] at h1
        have h2 := i64s_set_mid (rowI a j) (a + (j : Int)) k
        rw [rowI_length] at h2
        rw [h2] at h1
        rw [show m - (j + 1) = k by omega]
        exact h1
      case measure =>
        have hlt := HLT.out
        simp [intOf]
        omega
    · have hlt1 : ¬ (j : Int) < (m : Int) := by omega
      obtain rfl : j = m := by omega
      have HO := hide (show wr.ownsRow w.heap.size 2 1 (.slice (some ⟨w.heap.size, 0, none⟩) j j) j (i64s (rowI a j)) by simpa using how)
      have HGR := hide hgr
      clear hgr how
      go_wp2_with fail
      exact bodyPost_ret (v := .slice (some ⟨w.heap.size, 0, none⟩) j j) (by simp [results, Tryz.results68, go_sem]) rfl ⟨rfl, HGR.out, HO.out⟩
theorem row_any (a b : Int) (m : Nat) (hm : b - a = (m : Int)) (h1 : m ≤ 1100000) (ha : (-1000000000 ≤ a ∧ a ≤ 1000000000) ∨ m = 0) (w : World) :
    Calls Tryz.prog 68 #[.int .i64 a, .int .i64 b] w (IntsR (rowI a m) w) :=
  (rowG_any a b m hm h1 ha w).mono fun _ _ ⟨h1, h2, h3⟩ => ⟨h2, _, m, by rw [rowI_length]; exact Nat.le_refl _, by rw [rowI_length]; exact h1, by rw [rowI_length]; exact h3⟩
/-- What a list has at a place, and d where it has nothing. -/
def pickI (l : List Int) (d p : Int) : Int := if 0 ≤ p ∧ p < (l.length : Int) then l.getD p.toNat 0 else d
set_option maxHeartbeats 8000000 in
set_option maxRecDepth 100000 in
theorem picked_any (l ps : List Int) (d : Int) (w : World) (lA : Option Addr) (lc : Nat) (pA : Option Addr) (pc : Nat) (hl : Rd w w.heap.size lA (i64s l)) (hp : Rd w w.heap.size pA (i64s ps)) (h1 : ps.length ≤ 1100000) (h2 : l.length ≤ 1100000) :
    Calls Tryz.prog 101 #[.slice lA l.length lc, .int .i64 d, .slice pA ps.length pc] w (IntsR (ps.map (pickI l d)) w) := by
  obtain ⟨i1, hi1, hiz, his, hib⟩ := info_parts Tryz.info64
  obtain ⟨w0, hmk, hown, hg0⟩ := run_make_full (P := Tryz.prog) w w.heap.size 22 2 i1 (.int .i64 0) 1 Tryz.underlying22 hi1 hiz his .i64 .i64 ps.length (by rw [hib]; omega) (by unfold maxLen; omega) (Nat.le_refl _)
  rw [show (madeCells (Value.int .i64 0).cells (ps.length * 1)).toList = List.replicate ps.length (.int .i64 0) by rw [Nat.mul_one]; exact toList_madeCells_one _ ps.length] at hown
  have HOWN := hide hown
  have HG0 := hide hg0
  have HCL := hide h1
  have HLL := hide h2
  have HL := hide hl
  have HP := hide hp
  clear hown hg0 h1 h2 hl hp hi1 hiz his hib
  go_enter Tryz.func101, Tryz.ntmps101
  go_wp2_with fail
  go_loopw [15] (fun i wr => ∃ j : Nat, i = .int .i64 (j : Int) ∧ j ≤ ps.length ∧
    wr.ownsRow w.heap.size 2 1 (.slice (some ⟨w.heap.size, 0, none⟩) ps.length ps.length) ps.length (i64s ((ps.take j).map (pickI l d)) ++ List.replicate (ps.length - j) (.int .i64 0)) ∧ w.grownBy wr none) (fun i _ => ps.length - (intOf i).toNat)
  case atStart => exact ⟨0, rfl, Nat.zero_le _, by simpa [i64s] using HOWN.out, HG0.out⟩
  case round =>
    obtain ⟨j, rfl, hj, how, hgr⟩ := hrel
    by_cases hlt : j < ps.length
    · have hlt1 : (j : Int) < (ps.length : Int) := by omega
      obtain ⟨pp, ep, hpp, hcp⟩ := HP.out.i64 hlt
      obtain ⟨p, hpe⟩ : ∃ p, p = ps[j] := ⟨_, rfl⟩
      rw [← hpe] at hcp
      have cp := cell_gb hcp hgr
      obtain ⟨xs, hxs⟩ : ∃ xs, xs = (ps.take j).map (pickI l d) := ⟨_, rfl⟩
      have htk : ps.take (j + 1) = ps.take j ++ [ps[j]] := by rw [List.take_add_one, List.getElem?_eq_getElem hlt]; rfl
      have HTK := hide (show (ps.take (j + 1)).map (pickI l d) = xs ++ [pickI l d p] by rw [htk, List.map_append, ← hxs, hpe]; rfl)
      have hxl : xs.length = j := by rw [hxs, List.length_map, List.length_take]; omega
      have HLN := hide hxl
      rw [← hxs] at how
      have h6 : IntKind.i64.wrap ((j : Int) + 1) = ((j + 1 : Nat) : Int) := by rw [IntKind.wrap_i64]; have := HCL.out; omega
      have HO5 := hide how
      have HGR := hide hgr
      have HLT := hide hlt
      have c5 := how.cellAt j (by omega)
      rw [List.getElem?_append_right (by simp [i64s, hxl]), show (i64s xs).length = j by simp [i64s, hxl], Nat.sub_self, List.getElem?_replicate, if_pos (by omega)] at c5
      have z5 := how.frozenAt j
      have how2 := (how.stored j (.int .i64 d)).1
      have HO6 := hide how2
      have HG6 := hide (gb_setCell hgr (.inr (Nat.le_refl w.heap.size)) (.int .i64 d) : w.grownBy (wr.setCell ⟨w.heap.size, j, none⟩ (.int .i64 d)) none)
      have HST := hide (i64s_set_mid xs)
      subst ep
      clear hcp hpp how how2 hgr hlt hj hpe hxs htk hxl
      by_cases q0 : 0 ≤ p
      · by_cases q1 : p < (l.length : Int)
        · have HPI := hide (show pickI l d p = l.getD p.toNat 0 by unfold pickI; rw [if_pos ⟨q0, q1⟩])
          obtain ⟨q, rfl⟩ : ∃ q : Nat, p = (q : Int) := ⟨p.toNat, by omega⟩
          have hq : q < l.length := by omega
          obtain ⟨pl, el, hpl, hcl⟩ := HL.out.i64 hq
          obtain ⟨x, hx⟩ : ∃ x, x = l.getD q 0 := ⟨_, rfl⟩
          have hxe : l[q] = x := by rw [hx, List.getD_eq_getElem?_getD, List.getElem?_eq_getElem hq]; rfl
          rw [hxe] at hcl
          have cl := cell_gb hcl HG6.out
          have c6 := HO6.out.cellAt j (by have := HLT.out; omega)
          have hc6 : (wr.setCell ⟨w.heap.size, j, none⟩ (.int .i64 d)).cell? ⟨w.heap.size, j, none⟩ = some (.int .i64 d) := by rw [c6, List.getElem?_set_self (by simp [i64s]; have := HLT.out; have := HLN.out; omega)]
          clear c6
          have z6 := HO6.out.frozenAt j
          have HPX := hide (show pickI l d (q : Int) = x by rw [HPI.out, hx]; rfl)
          subst el
          clear hcl hpl hx hxe HPI hq
          go_wp2_with fail
          go_roundw
          case rel =>
            have hlt := HLT.out
            refine ⟨j + 1, by go_num, by omega, ?_, gb_setCell HG6.out (.inr (Nat.le_refl _)) _⟩
            rw [HTK.out, HPX.out]
            have h1 := (HO6.out.stored j (.int .i64 x)).1
            obtain ⟨k, hk⟩ : ∃ k, ps.length - j = k + 1 := ⟨ps.length - j - 1, by omega⟩
            rw [hk, List.set_set] at h1
            have h2 := HST.out x k
            rw [HLN.out] at h2
            rw [h2] at h1
            rw [show ps.length - (j + 1) = k by omega]
            exact h1
          case measure =>
            have hlt := HLT.out
            simp [intOf]
            omega
        · have HPX := hide (show pickI l d p = d by unfold pickI; rw [if_neg (fun h => q1 h.2)])
          go_wp2_with fail
          go_roundw
          case rel =>
            have hlt := HLT.out
            refine ⟨j + 1, by go_num, by omega, ?_, HG6.out⟩
            rw [HTK.out, HPX.out]
            have h1 := HO6.out
            obtain ⟨k, hk⟩ : ∃ k, ps.length - j = k + 1 := ⟨ps.length - j - 1, by omega⟩
            rw [hk] at h1
            have h2 := HST.out d k
            rw [HLN.out] at h2
            rw [h2] at h1
            rw [show ps.length - (j + 1) = k by omega]
            exact h1
          case measure =>
            have hlt := HLT.out
            simp [intOf]
            omega
      · have HPX := hide (show pickI l d p = d by unfold pickI; rw [if_neg (fun h => q0 h.1)])
        go_wp2_with fail
        go_roundw
        case rel =>
          have hlt := HLT.out
          refine ⟨j + 1, by go_num, by omega, ?_, HG6.out⟩
          rw [HTK.out, HPX.out]
          have h1 := HO6.out
          obtain ⟨k, hk⟩ : ∃ k, ps.length - j = k + 1 := ⟨ps.length - j - 1, by omega⟩
          rw [hk] at h1
          have h2 := HST.out d k
          rw [HLN.out] at h2
          rw [h2] at h1
          rw [show ps.length - (j + 1) = k by omega]
          exact h1
        case measure =>
          have hlt := HLT.out
          simp [intOf]
          omega
    · have hlt1 : ¬ (j : Int) < (ps.length : Int) := by omega
      obtain rfl : j = ps.length := by omega
      have HO := hide (show wr.ownsRow w.heap.size 2 1 (.slice (some ⟨w.heap.size, 0, none⟩) ps.length ps.length) ps.length (i64s (ps.map (pickI l d))) by simpa using how)
      have HGR := hide hgr
      clear hgr how
      go_wp2_with fail
      exact bodyPost_ret (v := .slice (some ⟨w.heap.size, 0, none⟩) ps.length ps.length) (by simp [results, Tryz.results101, go_sem]) rfl ⟨HGR.out, _, ps.length, by rw [List.length_map]; exact Nat.le_refl _, by rw [List.length_map], by rw [List.length_map]; exact HO.out⟩
end Go.Proofs.YtgepejnooghjbaaGreat

namespace Go.Proofs.YtgepejnooghjbaaGreat
open Go.RowKit
attribute [local go_sem ↓] Go.wp_at_zero Go.wp_at_succ

/-- Four cells of a value written over. -/
theorem put_four {w : World} {g : Nat} {c0 c1 c2 c3 : Value} {t : TypeId} (h : w.heap[g]? = some (.cells #[c0, c1, c2, c3] t (0, 0))) (u0 u1 u2 u3 : Value) :
    ((((w.setCell ⟨g, 0, none⟩ u0).setCell ⟨g, 1, none⟩ u1).setCell ⟨g, 2, none⟩ u2).setCell ⟨g, 3, none⟩ u3).heap[g]? = some (.cells #[u0, u1, u2, u3] t (0, 0)) := by
  rw [blk_set (blk_set (blk_set (blk_set h 0 _) 1 _) 2 _) 3 _]
  rfl
theorem put_four_gb {w0 w : World} {g : Nat} (h : w0.grownBy w none) (hg : w0.heap.size ≤ g) (u0 u1 u2 u3 : Value) :
    w0.grownBy ((((w.setCell ⟨g, 0, none⟩ u0).setCell ⟨g, 1, none⟩ u1).setCell ⟨g, 2, none⟩ u2).setCell ⟨g, 3, none⟩ u3) none :=
  gb_setCell (gb_setCell (gb_setCell (gb_setCell h (.inr hg) _) (.inr hg) _) (.inr hg) _) (.inr hg) _
theorem put_four_other {w : World} {g i : Nat} (h : i ≠ g) (u0 u1 u2 u3 : Value) :
    ((((w.setCell ⟨g, 0, none⟩ u0).setCell ⟨g, 1, none⟩ u1).setCell ⟨g, 2, none⟩ u2).setCell ⟨g, 3, none⟩ u3).heap[i]? = w.heap[i]? := by
  have k : ∀ (w : World) (j : Nat) (u : Value), (w.setCell ⟨g, j, none⟩ u).heap[i]? = w.heap[i]? := fun w j u => Below.heap_setCell w ⟨g, j, none⟩ u i (fun e => h e)
  rw [k, k, k, k]

/-- What 'like' gives. -/
def likeT (t0 t : Int) : Int := if atomT t0 = true then -t else t
set_option maxHeartbeats 2000000 in
set_option maxRecDepth 100000 in
theorem like_any (t0 t : Int) (c1 c2 c3 nv : Value) (ht : -100 ≤ t ∧ t ≤ 100) (hnv : ∃ A n c, nv = .slice A n c) (w : World) :
    Calls Tryz.prog 119 #[.agg #[.int .i64 t0, c1, c2, c3], .int .i64 t, nv] w fun e w' => e = .returned (.agg #[.int .i64 (likeT t0 t), nv, .slice none 0 0, .slice none 0 0]) ∧ w.grownBy w' none := by
  obtain ⟨nA, nn, nc, rfl⟩ := hnv
  obtain ⟨wa, hwa⟩ : ∃ wa, wa = (w.alloc (.cells #[.int .i64 t0, c1, c2, c3] 26)).alloc (.cells #[.int .i64 0, .slice none 0 0, .slice none 0 0, .slice none 0 0] 26) := ⟨_, rfl⟩
  have hg1 : w.grownBy (w.alloc (.cells #[.int .i64 t0, c1, c2, c3] 26)) none := gb_alloc (gb_refl w none) _
  have hp : wa.heap[w.heap.size]? = some (.cells #[.int .i64 t0, c1, c2, c3] 26 (0, 0)) := by
    rw [hwa]
    exact ((gb_alloc (gb_refl (w.alloc (.cells #[.int .i64 t0, c1, c2, c3] 26)) none) _).block _ (by simp) (by simp)).trans (heap_alloc_new w _)
  have hr : wa.heap[w.heap.size + 1]? = some (.cells #[.int .i64 0, .slice none 0 0, .slice none 0 0, .slice none 0 0] 26 (0, 0)) := by
    have := heap_alloc_new (w.alloc (.cells #[.int .i64 t0, c1, c2, c3] 26)) (.cells #[.int .i64 0, .slice none 0 0, .slice none 0 0, .slice none 0 0] 26)
    rw [World.size_alloc] at this
    rw [hwa]
    exact this
  have HG := hide (show w.grownBy wa none by rw [hwa]; exact gb_alloc hg1 _)
  have HR := hide hr
  have x0 : wa.cell? ⟨w.heap.size, 0, none⟩ = some (.int .i64 t0) := by rw [blk_cell hp]; rfl
  have x1 : wa.cell? ⟨w.heap.size, 1, none⟩ = some c1 := by rw [blk_cell hp]; rfl
  have x2 : wa.cell? ⟨w.heap.size, 2, none⟩ = some c2 := by rw [blk_cell hp]; rfl
  have x3 : wa.cell? ⟨w.heap.size, 3, none⟩ = some c3 := by rw [blk_cell hp]; rfl
  have HW := hide hwa
  have hn : IntKind.i64.wrap (-t) = -t := by rw [IntKind.wrap_i64]; omega
  clear hp hr hg1 hwa ht
  cases ha : atomT t0
  · have HL := hide (show likeT t0 t = t by unfold likeT; rw [ha]; rfl)
    skip
    go_enter Tryz.func119, Tryz.ntmps119
    go_wp2_with fail
    rw [← HW.out]
    go_wp2_with (go_at_call 116; refine (isAtom_any _ _ _ _ _).mono ?_; rintro e w1 ⟨rfl, hg1⟩; have HG1 := hide (gb_trans HG.out hg1 (.inl rfl)); have hr2 := (hg1.block _ (blk_lt HR.out) (by simp)).trans HR.out; have HR2 := hide hr2; have z0 := blk_frozen hr2 0; have z1 := blk_frozen hr2 1; have z2 := blk_frozen hr2 2; have z3 := blk_frozen hr2 3; have y0 : w1.cell? ⟨w.heap.size + 1, 0, none⟩ = some (.int .i64 0) := (by { rw [blk_cell hr2]; rfl }); have y1 : w1.cell? ⟨w.heap.size + 1, 1, none⟩ = some (.slice none 0 0) := (by { rw [blk_cell hr2]; rfl }); have y2 : w1.cell? ⟨w.heap.size + 1, 2, none⟩ = some (.slice none 0 0) := (by { rw [blk_cell hr2]; rfl }); have y3 : w1.cell? ⟨w.heap.size + 1, 3, none⟩ = some (.slice none 0 0) := (by { rw [blk_cell hr2]; rfl }); clear hg1 hr2)
    have hb := put_four HR2.out (.int .i64 (t)) (.slice nA nn nc) (.slice none 0 0) (.slice none 0 0)
    have m0 : ((((w1.setCell ⟨w.heap.size + 1, 0, none⟩ (.int .i64 (t))).setCell ⟨w.heap.size + 1, 1, none⟩ (.slice nA nn nc)).setCell ⟨w.heap.size + 1, 2, none⟩ (.slice none 0 0)).setCell ⟨w.heap.size + 1, 3, none⟩ (.slice none 0 0)).cell? ⟨w.heap.size + 1, 0, none⟩ = some (.int .i64 (t)) := by rw [blk_cell hb]; rfl
    have m1 : ((((w1.setCell ⟨w.heap.size + 1, 0, none⟩ (.int .i64 (t))).setCell ⟨w.heap.size + 1, 1, none⟩ (.slice nA nn nc)).setCell ⟨w.heap.size + 1, 2, none⟩ (.slice none 0 0)).setCell ⟨w.heap.size + 1, 3, none⟩ (.slice none 0 0)).cell? ⟨w.heap.size + 1, 1, none⟩ = some (.slice nA nn nc) := by rw [blk_cell hb]; rfl
    have m2 : ((((w1.setCell ⟨w.heap.size + 1, 0, none⟩ (.int .i64 (t))).setCell ⟨w.heap.size + 1, 1, none⟩ (.slice nA nn nc)).setCell ⟨w.heap.size + 1, 2, none⟩ (.slice none 0 0)).setCell ⟨w.heap.size + 1, 3, none⟩ (.slice none 0 0)).cell? ⟨w.heap.size + 1, 2, none⟩ = some (.slice none 0 0) := by rw [blk_cell hb]; rfl
    have m3 : ((((w1.setCell ⟨w.heap.size + 1, 0, none⟩ (.int .i64 (t))).setCell ⟨w.heap.size + 1, 1, none⟩ (.slice nA nn nc)).setCell ⟨w.heap.size + 1, 2, none⟩ (.slice none 0 0)).setCell ⟨w.heap.size + 1, 3, none⟩ (.slice none 0 0)).cell? ⟨w.heap.size + 1, 3, none⟩ = some (.slice none 0 0) := by rw [blk_cell hb]; rfl
    refine bodyPost_ret (v := .agg #[.int .i64 (t), .slice nA nn nc, .slice none 0 0, .slice none 0 0]) (by simp [results, Tryz.results119, go_sem, m0, m1, m2, m3]) rfl ⟨by rw [HL.out], put_four_gb HG1.out (Nat.le_succ _) _ _ _ _⟩
  · have HL := hide (show likeT t0 t = -t by unfold likeT; rw [ha]; rfl)
    skip
    go_enter Tryz.func119, Tryz.ntmps119
    go_wp2_with fail
    rw [← HW.out]
    go_wp2_with (go_at_call 116; refine (isAtom_any _ _ _ _ _).mono ?_; rintro e w1 ⟨rfl, hg1⟩; have HG1 := hide (gb_trans HG.out hg1 (.inl rfl)); have hr2 := (hg1.block _ (blk_lt HR.out) (by simp)).trans HR.out; have HR2 := hide hr2; have z0 := blk_frozen hr2 0; have z1 := blk_frozen hr2 1; have z2 := blk_frozen hr2 2; have z3 := blk_frozen hr2 3; have y0 : w1.cell? ⟨w.heap.size + 1, 0, none⟩ = some (.int .i64 0) := (by { rw [blk_cell hr2]; rfl }); have y1 : w1.cell? ⟨w.heap.size + 1, 1, none⟩ = some (.slice none 0 0) := (by { rw [blk_cell hr2]; rfl }); have y2 : w1.cell? ⟨w.heap.size + 1, 2, none⟩ = some (.slice none 0 0) := (by { rw [blk_cell hr2]; rfl }); have y3 : w1.cell? ⟨w.heap.size + 1, 3, none⟩ = some (.slice none 0 0) := (by { rw [blk_cell hr2]; rfl }); clear hg1 hr2)
    have hb := put_four HR2.out (.int .i64 (-t)) (.slice nA nn nc) (.slice none 0 0) (.slice none 0 0)
    have m0 : ((((w1.setCell ⟨w.heap.size + 1, 0, none⟩ (.int .i64 (-t))).setCell ⟨w.heap.size + 1, 1, none⟩ (.slice nA nn nc)).setCell ⟨w.heap.size + 1, 2, none⟩ (.slice none 0 0)).setCell ⟨w.heap.size + 1, 3, none⟩ (.slice none 0 0)).cell? ⟨w.heap.size + 1, 0, none⟩ = some (.int .i64 (-t)) := by rw [blk_cell hb]; rfl
    have m1 : ((((w1.setCell ⟨w.heap.size + 1, 0, none⟩ (.int .i64 (-t))).setCell ⟨w.heap.size + 1, 1, none⟩ (.slice nA nn nc)).setCell ⟨w.heap.size + 1, 2, none⟩ (.slice none 0 0)).setCell ⟨w.heap.size + 1, 3, none⟩ (.slice none 0 0)).cell? ⟨w.heap.size + 1, 1, none⟩ = some (.slice nA nn nc) := by rw [blk_cell hb]; rfl
    have m2 : ((((w1.setCell ⟨w.heap.size + 1, 0, none⟩ (.int .i64 (-t))).setCell ⟨w.heap.size + 1, 1, none⟩ (.slice nA nn nc)).setCell ⟨w.heap.size + 1, 2, none⟩ (.slice none 0 0)).setCell ⟨w.heap.size + 1, 3, none⟩ (.slice none 0 0)).cell? ⟨w.heap.size + 1, 2, none⟩ = some (.slice none 0 0) := by rw [blk_cell hb]; rfl
    have m3 : ((((w1.setCell ⟨w.heap.size + 1, 0, none⟩ (.int .i64 (-t))).setCell ⟨w.heap.size + 1, 1, none⟩ (.slice nA nn nc)).setCell ⟨w.heap.size + 1, 2, none⟩ (.slice none 0 0)).setCell ⟨w.heap.size + 1, 3, none⟩ (.slice none 0 0)).cell? ⟨w.heap.size + 1, 3, none⟩ = some (.slice none 0 0) := by rw [blk_cell hb]; rfl
    refine bodyPost_ret (v := .agg #[.int .i64 (-t), .slice nA nn nc, .slice none 0 0, .slice none 0 0]) (by simp [results, Tryz.results119, go_sem, m0, m1, m2, m3]) rfl ⟨by rw [HL.out], put_four_gb HG1.out (Nat.le_succ _) _ _ _ _⟩
end Go.Proofs.YtgepejnooghjbaaGreat

namespace Go.Proofs.YtgepejnooghjbaaGreat
open Go.RowKit
attribute [local go_sem ↓] Go.wp_at_zero Go.wp_at_succ

theorem own_low {w : World} {b b' : Nat} {e : TypeId} {size n : Nat} {v : Value} {xs : List Value} (h : w.ownsRow b e size v n xs) (hb : b' ≤ b) : w.ownsRow b' e size v n xs :=
  ⟨h.1, h.2.imp id fun ⟨g, cap, cur, h1, h2, h3⟩ => ⟨g, cap, cur, h1, Nat.le_trans hb h2, h3⟩⟩
/-- An int or a vector of ints. -/
structure IntV (x : Vl) : Prop where
  t : x.t = 2 ∨ x.t = -2 ∧ x.n.length = 1
  n : x.n.length ≤ 1000000
  i : ∀ k ∈ x.n, I64 k
  tot : x.tot ≤ 1100000
theorem nil_neq (w : World) : (binOp .neq 97 Value.nilFunc Value.nilFunc).run Tryz.prog w = .ok (.bool false) w := by kernel_rfl
theorem put_four_row (w : World) (g : Nat) (u0 u1 u2 u3 : Value) : w.grownBy ((((w.setCell ⟨g, 0, none⟩ u0).setCell ⟨g, 1, none⟩ u1).setCell ⟨g, 2, none⟩ u2).setCell ⟨g, 3, none⟩ u3) (some g) :=
  gb_setCell (gb_setCell (gb_setCell (gb_setCell (gb_refl w (some g)) (.inl rfl) u0) (.inl rfl) u1) (.inl rfl) u2) (.inl rfl) u3
theorem IntV.count {x : Vl} (h : IntV x) : x.count = x.n.length := by
  rw [Vl.count_def]
  rcases h.t with e | ⟨e, e1⟩
  · rw [e, if_pos (.inr (.inl rfl))]
  · rw [e, if_neg (by decide), if_neg (by decide), if_neg (by decide), if_neg (by decide), e1]
/-- What a rule of ints makes of two: an error, or the type and the numbers. -/
def doI (f : Int → Int → Option Int) (x y : Vl) : Except Int (Int × List Int) :=
  if x.t = 2 then
    (if y.t = 2 ∧ y.n.length ≠ x.n.length then .error 32 else match eachO f x.n y.n 0 x.n.length with | none => .error 70 | some l => .ok (2, l))
  else match eachO f x.n y.n 0 y.n.length with | none => .error 70 | some l => .ok (y.t, l)
/-- What 'do' gives. -/
def DoR (r : Except Int (Int × List Int)) (w : World) (e : Ending) (w' : World) : Prop := w.grownBy w' none ∧ match r with
  | .error k => e = .returned (.tuple #[.agg #[.int .i64 0, .slice none 0 0, .slice none 0 0, .slice none 0 0], .int .i64 k])
  | .ok (t, l) => ∃ A c, l.length ≤ c ∧ e = .returned (.tuple #[.agg #[.int .i64 t, .slice A l.length c, .slice none 0 0, .slice none 0 0], .int .i64 0]) ∧ w'.ownsRow w.heap.size 2 1 (.slice A l.length c) l.length (i64s l)
/-- The five boxes of 'do'. -/
structure DoB (s : Nat) (wn : World) (fv x0 x1 x2 x3 y0 y1 y2 y3 v0 v1 v2 v3 : Value) : Prop where
  r : wn.heap[s]? = some (.cells #[.int .i64 2, fv, Value.nilFunc] 99 (0, 0))
  x : wn.heap[s + 1]? = some (.cells #[x0, x1, x2, x3] 26 (0, 0))
  y : wn.heap[s + 2]? = some (.cells #[y0, y1, y2, y3] 26 (0, 0))
  z : wn.heap[s + 3]? = some (.cells #[.int .i64 0, .slice none 0 0, .slice none 0 0, .slice none 0 0] 26 (0, 0))
  v : wn.heap[s + 4]? = some (.cells #[v0, v1, v2, v3] 26 (0, 0))
section
variable {s : Nat} {wn w' : World} {fv x0 x1 x2 x3 y0 y1 y2 y3 v0 v1 v2 v3 : Value}
theorem DoB.mk_ (w : World) (fv x0 x1 x2 x3 y0 y1 y2 y3 v0 v1 v2 v3 : Value) :
    DoB w.heap.size (((((w.alloc (.cells #[.int .i64 2, fv, Value.nilFunc] 99)).alloc (.cells #[x0, x1, x2, x3] 26)).alloc (.cells #[y0, y1, y2, y3] 26)).alloc (.cells #[.int .i64 0, .slice none 0 0, .slice none 0 0, .slice none 0 0] 26)).alloc (.cells #[v0, v1, v2, v3] 26)) fv x0 x1 x2 x3 y0 y1 y2 y3 v0 v1 v2 v3 := by
  have k : ∀ (w : World) (i : Nat) (u o : Obj), w.heap[i]? = some u → (w.alloc o).heap[i]? = some u := fun w i u o h => (Below.heap_alloc w o i (blk_lt h)).trans h
  have l : ∀ (w : World) (i : Nat) (o : Obj), w.heap.size = i → (w.alloc o).heap[i]? = some o := fun w i o h => h ▸ heap_alloc_new w o
  have e : ∀ (w : World) (i : Nat) (o : Obj), w.heap.size = i → (w.alloc o).heap.size = i + 1 := fun w i o h => by rw [World.size_alloc, h]
  exact ⟨k _ _ _ _ (k _ _ _ _ (k _ _ _ _ (k _ _ _ _ (l _ _ _ rfl)))), k _ _ _ _ (k _ _ _ _ (k _ _ _ _ (l _ _ _ (e _ _ _ rfl)))), k _ _ _ _ (k _ _ _ _ (l _ _ _ (e _ _ _ (e _ _ _ rfl)))),
    k _ _ _ _ (l _ _ _ (e _ _ _ (e _ _ _ (e _ _ _ rfl)))), l _ _ _ (e _ _ _ (e _ _ _ (e _ _ _ (e _ _ _ rfl))))⟩
theorem DoB.gb (h : DoB s wn fv x0 x1 x2 x3 y0 y1 y2 y3 v0 v1 v2 v3) (hg : wn.grownBy w' none) : DoB s w' fv x0 x1 x2 x3 y0 y1 y2 y3 v0 v1 v2 v3 :=
  ⟨blk_keep h.r hg (by simp), blk_keep h.x hg (by simp), blk_keep h.y hg (by simp), blk_keep h.z hg (by simp), blk_keep h.v hg (by simp)⟩
theorem DoB.wide (h : DoB s wn fv x0 x1 x2 x3 y0 y1 y2 y3 v0 v1 v2 v3) (u0 u1 u2 u3 : Value) : DoB s ((((wn.setCell ⟨s + 4, 0, none⟩ u0).setCell ⟨s + 4, 1, none⟩ u1).setCell ⟨s + 4, 2, none⟩ u2).setCell ⟨s + 4, 3, none⟩ u3) fv x0 x1 x2 x3 y0 y1 y2 y3 u0 u1 u2 u3 :=
  ⟨(put_four_other (by omega) _ _ _ _).trans h.r, (put_four_other (by omega) _ _ _ _).trans h.x, (put_four_other (by omega) _ _ _ _).trans h.y, (put_four_other (by omega) _ _ _ _).trans h.z, put_four h.v _ _ _ _⟩
/-- What the walk reads of them. -/
theorem DoB.vis (h : DoB s wn fv x0 x1 x2 x3 y0 y1 y2 y3 v0 v1 v2 v3) :
    (wn.cell? ⟨s, 0, none⟩ = some (.int .i64 2) ∧ wn.cell? ⟨s, 1, none⟩ = some fv ∧ wn.cell? ⟨s, 2, none⟩ = some Value.nilFunc) ∧
    (wn.cell? ⟨s + 1, 0, none⟩ = some x0 ∧ wn.cell? ⟨s + 1, 1, none⟩ = some x1 ∧ wn.cell? ⟨s + 1, 2, none⟩ = some x2 ∧ wn.cell? ⟨s + 1, 3, none⟩ = some x3) ∧
    (wn.cell? ⟨s + 2, 0, none⟩ = some y0 ∧ wn.cell? ⟨s + 2, 1, none⟩ = some y1 ∧ wn.cell? ⟨s + 2, 2, none⟩ = some y2 ∧ wn.cell? ⟨s + 2, 3, none⟩ = some y3) ∧
    (wn.cell? ⟨s + 3, 0, none⟩ = some (.int .i64 0) ∧ wn.cell? ⟨s + 3, 1, none⟩ = some (.slice none 0 0) ∧ wn.cell? ⟨s + 3, 2, none⟩ = some (.slice none 0 0) ∧ wn.cell? ⟨s + 3, 3, none⟩ = some (.slice none 0 0)) ∧
    (wn.cell? ⟨s + 4, 0, none⟩ = some v0 ∧ wn.cell? ⟨s + 4, 1, none⟩ = some v1 ∧ wn.cell? ⟨s + 4, 2, none⟩ = some v2 ∧ wn.cell? ⟨s + 4, 3, none⟩ = some v3) ∧
    (wn.frozen? ⟨s + 3, 0, none⟩ = false ∧ wn.frozen? ⟨s + 3, 1, none⟩ = false ∧ wn.frozen? ⟨s + 3, 2, none⟩ = false ∧ wn.frozen? ⟨s + 3, 3, none⟩ = false) ∧
    (wn.frozen? ⟨s + 4, 0, none⟩ = false ∧ wn.frozen? ⟨s + 4, 1, none⟩ = false ∧ wn.frozen? ⟨s + 4, 2, none⟩ = false ∧ wn.frozen? ⟨s + 4, 3, none⟩ = false) := by
  refine ⟨⟨?_, ?_, ?_⟩, ⟨?_, ?_, ?_, ?_⟩, ⟨?_, ?_, ?_, ?_⟩, ⟨?_, ?_, ?_, ?_⟩, ⟨?_, ?_, ?_, ?_⟩, ⟨blk_frozen h.z 0, blk_frozen h.z 1, blk_frozen h.z 2, blk_frozen h.z 3⟩, ⟨blk_frozen h.v 0, blk_frozen h.v 1, blk_frozen h.v 2, blk_frozen h.v 3⟩⟩
  · rw [blk_cell h.r]; rfl
  · rw [blk_cell h.r]; rfl
  · rw [blk_cell h.r]; rfl
  · rw [blk_cell h.x]; rfl
  · rw [blk_cell h.x]; rfl
  · rw [blk_cell h.x]; rfl
  · rw [blk_cell h.x]; rfl
  · rw [blk_cell h.y]; rfl
  · rw [blk_cell h.y]; rfl
  · rw [blk_cell h.y]; rfl
  · rw [blk_cell h.y]; rfl
  · rw [blk_cell h.z]; rfl
  · rw [blk_cell h.z]; rfl
  · rw [blk_cell h.z]; rfl
  · rw [blk_cell h.z]; rfl
  · rw [blk_cell h.v]; rfl
  · rw [blk_cell h.v]; rfl
  · rw [blk_cell h.v]; rfl
  · rw [blk_cell h.v]; rfl
end
set_option maxHeartbeats 16000000 in
set_option maxRecDepth 100000 in
theorem do_ints (f : Int → Int → Option Int) (g k : Nat) (x y : Vl) (w : World) (B : Nat) (nA : Option Addr) (nc : Nat) (sA : Option Addr) (sc : Nat) (lA : Option Addr) (lc : Nat) (mA : Option Addr) (mc : Nat) (tA : Option Addr) (tc : Nat) (kA : Option Addr) (kc : Nat)
    (hx : IntV x) (hy : IntV y) (hB : B ≤ w.heap.size) (vx : VB w B x nA nc sA sc lA lc) (vy : VB w B y mA mc tA tc kA kc) (hS : StrF k w g f) :
    Calls Tryz.prog 72 #[.agg #[.int .i64 2, (.func (.func 145) #[] #[.pointer (some ⟨g, 0, none⟩)]), Value.nilFunc], .agg #[.int .i64 x.t, .slice nA x.n.length nc, .slice sA x.s.length sc, .slice lA x.l.length lc], .agg #[.int .i64 y.t, .slice mA y.n.length mc, .slice tA y.s.length tc, .slice kA y.l.length kc]] w (DoR (doI f x y) w) := by
  obtain ⟨wb, hwb⟩ : ∃ wb, wb = ((((w.alloc (.cells #[.int .i64 2, (.func (.func 145) #[] #[.pointer (some ⟨g, 0, none⟩)]), Value.nilFunc] 99)).alloc (.cells #[.int .i64 x.t, .slice nA x.n.length nc, .slice sA x.s.length sc, .slice lA x.l.length lc] 26)).alloc (.cells #[.int .i64 y.t, .slice mA y.n.length mc, .slice tA y.s.length tc, .slice kA y.l.length kc] 26)).alloc (.cells #[.int .i64 0, .slice none 0 0, .slice none 0 0, .slice none 0 0] 26)).alloc (.cells #[.int .i64 x.t, .slice nA x.n.length nc, .slice sA x.s.length sc, .slice lA x.l.length lc] 26) := ⟨_, rfl⟩
  have hd := DoB.mk_ w ((.func (.func 145) #[] #[.pointer (some ⟨g, 0, none⟩)])) (.int .i64 x.t) (.slice nA x.n.length nc) (.slice sA x.s.length sc) (.slice lA x.l.length lc) (.int .i64 y.t) (.slice mA y.n.length mc) (.slice tA y.s.length tc) (.slice kA y.l.length kc) (.int .i64 x.t) (.slice nA x.n.length nc) (.slice sA x.s.length sc) (.slice lA x.l.length lc)
  rw [← hwb] at hd
  have HG := hide (show w.grownBy wb none by rw [hwb]; exact gb_alloc (gb_alloc (gb_alloc (gb_alloc (gb_alloc (gb_refl w none) _) _) _) _) _)
  have HS5 := hide (show w.heap.size + 5 ≤ wb.heap.size by rw [hwb]; simp)
  have HD := hide hd
  have HW := hide hwb
  have HCX : Hid (∀ w2, w.grownBy w2 none → Calls Tryz.prog 35 #[.agg #[.int .i64 x.t, .slice nA x.n.length nc, .slice sA x.s.length sc, .slice lA x.l.length lc]] w2 fun e w' => e = .returned (.int .i64 (x.n.length : Nat)) ∧ w2.grownBy w' none) := hide (fun w2 hg => (count_d x.depth x w2 B nA nc sA sc lA lc (Nat.le_refl _) hx.tot (Nat.le_trans hB hg.size) (vx.gb hg hB)).mono fun e w' h => ⟨h.1.trans (by rw [hx.count]), h.2⟩)
  have HCY : Hid (∀ w2, w.grownBy w2 none → Calls Tryz.prog 35 #[.agg #[.int .i64 y.t, .slice mA y.n.length mc, .slice tA y.s.length tc, .slice kA y.l.length kc]] w2 fun e w' => e = .returned (.int .i64 (y.n.length : Nat)) ∧ w2.grownBy w' none) := hide (fun w2 hg => (count_d y.depth y w2 B mA mc tA tc kA kc (Nat.le_refl _) hy.tot (Nat.le_trans hB hg.size) (vy.gb hg hB)).mono fun e w' h => ⟨h.1.trans (by rw [hy.count]), h.2⟩)
  have HEA := hide (fun (c : Nat) (hc : c ≤ 1000000) (ha : 0 < c → 0 < x.n.length) (hb : 0 < c → 0 < y.n.length) w2 (hg : w.grownBy w2 none) => each_any f x.n y.n c k g w2 nA nc mA mc (hS.gb hg) ((vx.gb hg hB).n.more (Nat.le_trans hB hg.size)) ((vy.gb hg hB).n.more (Nat.le_trans hB hg.size)) hc ha hb hx.n hy.n hx.i hy.i)
  have HT := hide hx.t
  have HU := hide hy.t
  have HNX := hide hx.n
  have HNY := hide hy.n
  have MC := hide trivial
  have hnil := nil_neq
  obtain ⟨⟨r0, r1, r2⟩, ⟨x0, x1, x2, x3⟩, ⟨y0, y1, y2, y3⟩, ⟨z0, z1, z2, z3⟩, ⟨v0, v1, v2, v3⟩, ⟨f0, f1, f2, f3⟩, ⟨h0, h1, h2, h3⟩⟩ := hd.vis
  clear hx hy hB vx vy hS hd hwb
  rcases HT.out with hxt | ⟨hxt, hx1⟩
  · have ax : atomT x.t = false := by rw [hxt]; rfl
    have HLK := hide (show likeT x.t 2 = 2 by unfold likeT; rw [ax]; rfl)
    rcases HU.out with hyt | ⟨hyt, hy1⟩
    · have ay : atomT y.t = false := by rw [hyt]; rfl
      by_cases hl : y.n.length = x.n.length
      · have HDI := hide (show doI f x y = match eachO f x.n y.n 0 x.n.length with | none => .error 70 | some l => .ok (2, l) by unfold doI; rw [if_pos hxt, if_neg (fun h => h.2 hl)])
        have hl1 : ((y.n.length : Int) == (x.n.length : Int)) = true := by rw [hl]; exact beq_self_eq_true _
        have hl2 : ((y.n.length : Int) != (x.n.length : Int)) = false := by rw [hl]; simp
        have HEC := hide (HEA.out x.n.length HNX.out id (fun h => by omega))
        clear hxt hyt hl
        cases hE : eachO f x.n y.n 0 x.n.length with
        | none =>
          rw [hE] at HDI HEC
          have HE := hide (fun w2 (hg : w.grownBy w2 none) => HEC.out w2 hg)
          clear HEC HEA hE
          go_enter Tryz.func72, Tryz.ntmps72
          go_wp2_with fail
          rw [← HW.out]
          go_wp2_with (first
            | (go_at_call 116; refine (isAtom_any _ _ _ _ _).mono ?_; rintro e wp ⟨rfl, hg⟩; have HGn := hide (gb_trans HG.out hg (.inl rfl)); have HDn := hide (HD.out.gb hg); clear r0 r1 r2 x0 x1 x2 x3 y0 y1 y2 y3 z0 z1 z2 z3 v0 v1 v2 v3 f0 f1 f2 f3 h0 h1 h2 h3 HG HD; have HG := hide HGn.out; have HD := hide HDn.out; clear HGn HDn hg; obtain ⟨⟨r0, r1, r2⟩, ⟨x0, x1, x2, x3⟩, ⟨y0, y1, y2, y3⟩, ⟨z0, z1, z2, z3⟩, ⟨v0, v1, v2, v3⟩, ⟨f0, f1, f2, f3⟩, ⟨h0, h1, h2, h3⟩⟩ := HD.out.vis)
            | (go_at_call 35; first | (have _m := MC; clear MC _m; refine (HCX.out _ HG.out).mono ?_; rintro e wq ⟨rfl, hg⟩; have HGn := hide (gb_trans HG.out hg (.inl rfl)); have HDn := hide (HD.out.gb hg); clear r0 r1 r2 x0 x1 x2 x3 y0 y1 y2 y3 z0 z1 z2 z3 v0 v1 v2 v3 f0 f1 f2 f3 h0 h1 h2 h3 HG HD; have HG := hide HGn.out; have HD := hide HDn.out; clear HGn HDn hg; obtain ⟨⟨r0, r1, r2⟩, ⟨x0, x1, x2, x3⟩, ⟨y0, y1, y2, y3⟩, ⟨z0, z1, z2, z3⟩, ⟨v0, v1, v2, v3⟩, ⟨f0, f1, f2, f3⟩, ⟨h0, h1, h2, h3⟩⟩ := HD.out.vis) | (refine (HCY.out _ HG.out).mono ?_; rintro e wq ⟨rfl, hg⟩; have HGn := hide (gb_trans HG.out hg (.inl rfl)); have HDn := hide (HD.out.gb hg); clear r0 r1 r2 x0 x1 x2 x3 y0 y1 y2 y3 z0 z1 z2 z3 v0 v1 v2 v3 f0 f1 f2 f3 h0 h1 h2 h3 HG HD; have HG := hide HGn.out; have HD := hide HDn.out; clear HGn HDn hg; obtain ⟨⟨r0, r1, r2⟩, ⟨x0, x1, x2, x3⟩, ⟨y0, y1, y2, y3⟩, ⟨z0, z1, z2, z3⟩, ⟨v0, v1, v2, v3⟩, ⟨f0, f1, f2, f3⟩, ⟨h0, h1, h2, h3⟩⟩ := HD.out.vis))
            | (go_at_call 118; refine (HE.out _ HG.out).mono ?_; rintro e wq ⟨hg, rfl⟩; have HGn := hide (gb_trans HG.out hg (.inl rfl)); have HDn := hide (HD.out.gb hg); clear r0 r1 r2 x0 x1 x2 x3 y0 y1 y2 y3 z0 z1 z2 z3 v0 v1 v2 v3 f0 f1 f2 f3 h0 h1 h2 h3 HG HD; have HG := hide HGn.out; have HD := hide HDn.out; clear HGn HDn hg; obtain ⟨⟨r0, r1, r2⟩, ⟨x0, x1, x2, x3⟩, ⟨y0, y1, y2, y3⟩, ⟨z0, z1, z2, z3⟩, ⟨v0, v1, v2, v3⟩, ⟨f0, f1, f2, f3⟩, ⟨h0, h1, h2, h3⟩⟩ := HD.out.vis))
          have hb := put_four HD.out.z (.int .i64 0) (.slice none 0 0) (.slice none 0 0) (.slice none 0 0)
          have m0 : ((((wq.setCell ⟨w.heap.size + 1 + 1 + 1, 0, none⟩ (.int .i64 0)).setCell ⟨w.heap.size + 1 + 1 + 1, 1, none⟩ (.slice none 0 0)).setCell ⟨w.heap.size + 1 + 1 + 1, 2, none⟩ (.slice none 0 0)).setCell ⟨w.heap.size + 1 + 1 + 1, 3, none⟩ (.slice none 0 0)).cell? ⟨w.heap.size + 1 + 1 + 1, 0, none⟩ = some (.int .i64 0) := (blk_cell hb 0).trans rfl
          have m1 : ((((wq.setCell ⟨w.heap.size + 1 + 1 + 1, 0, none⟩ (.int .i64 0)).setCell ⟨w.heap.size + 1 + 1 + 1, 1, none⟩ (.slice none 0 0)).setCell ⟨w.heap.size + 1 + 1 + 1, 2, none⟩ (.slice none 0 0)).setCell ⟨w.heap.size + 1 + 1 + 1, 3, none⟩ (.slice none 0 0)).cell? ⟨w.heap.size + 1 + 1 + 1, 1, none⟩ = some (.slice none 0 0) := (blk_cell hb 1).trans rfl
          have m2 : ((((wq.setCell ⟨w.heap.size + 1 + 1 + 1, 0, none⟩ (.int .i64 0)).setCell ⟨w.heap.size + 1 + 1 + 1, 1, none⟩ (.slice none 0 0)).setCell ⟨w.heap.size + 1 + 1 + 1, 2, none⟩ (.slice none 0 0)).setCell ⟨w.heap.size + 1 + 1 + 1, 3, none⟩ (.slice none 0 0)).cell? ⟨w.heap.size + 1 + 1 + 1, 2, none⟩ = some (.slice none 0 0) := (blk_cell hb 2).trans rfl
          have m3 : ((((wq.setCell ⟨w.heap.size + 1 + 1 + 1, 0, none⟩ (.int .i64 0)).setCell ⟨w.heap.size + 1 + 1 + 1, 1, none⟩ (.slice none 0 0)).setCell ⟨w.heap.size + 1 + 1 + 1, 2, none⟩ (.slice none 0 0)).setCell ⟨w.heap.size + 1 + 1 + 1, 3, none⟩ (.slice none 0 0)).cell? ⟨w.heap.size + 1 + 1 + 1, 3, none⟩ = some (.slice none 0 0) := (blk_cell hb 3).trans rfl
          exact bodyPost_ret (v := .tuple #[.agg #[.int .i64 0, .slice none 0 0, .slice none 0 0, .slice none 0 0], .int .i64 70]) (by simp [results, Tryz.results72, go_sem, m0, m1, m2, m3]) rfl ⟨put_four_gb HG.out (Nat.le_add_right _ 3) _ _ _ _, by rw [HDI.out]⟩
        | some l =>
          rw [hE] at HDI HEC
          have HE := hide (fun w2 (hg : w.grownBy w2 none) => HEC.out w2 hg)
          clear HEC HEA hE
          go_enter Tryz.func72, Tryz.ntmps72
          go_wp2_with fail
          rw [← HW.out]
          go_wp2_with (first
            | (go_at_call 116; refine (isAtom_any _ _ _ _ _).mono ?_; rintro e wp ⟨rfl, hg⟩; have HGn := hide (gb_trans HG.out hg (.inl rfl)); have HDn := hide (HD.out.gb hg); clear r0 r1 r2 x0 x1 x2 x3 y0 y1 y2 y3 z0 z1 z2 z3 v0 v1 v2 v3 f0 f1 f2 f3 h0 h1 h2 h3 HG HD; have HG := hide HGn.out; have HD := hide HDn.out; clear HGn HDn hg; obtain ⟨⟨r0, r1, r2⟩, ⟨x0, x1, x2, x3⟩, ⟨y0, y1, y2, y3⟩, ⟨z0, z1, z2, z3⟩, ⟨v0, v1, v2, v3⟩, ⟨f0, f1, f2, f3⟩, ⟨h0, h1, h2, h3⟩⟩ := HD.out.vis)
            | (go_at_call 35; first | (have _m := MC; clear MC _m; refine (HCX.out _ HG.out).mono ?_; rintro e wq ⟨rfl, hg⟩; have HGn := hide (gb_trans HG.out hg (.inl rfl)); have HDn := hide (HD.out.gb hg); clear r0 r1 r2 x0 x1 x2 x3 y0 y1 y2 y3 z0 z1 z2 z3 v0 v1 v2 v3 f0 f1 f2 f3 h0 h1 h2 h3 HG HD; have HG := hide HGn.out; have HD := hide HDn.out; clear HGn HDn hg; obtain ⟨⟨r0, r1, r2⟩, ⟨x0, x1, x2, x3⟩, ⟨y0, y1, y2, y3⟩, ⟨z0, z1, z2, z3⟩, ⟨v0, v1, v2, v3⟩, ⟨f0, f1, f2, f3⟩, ⟨h0, h1, h2, h3⟩⟩ := HD.out.vis) | (refine (HCY.out _ HG.out).mono ?_; rintro e wq ⟨rfl, hg⟩; have HGn := hide (gb_trans HG.out hg (.inl rfl)); have HDn := hide (HD.out.gb hg); clear r0 r1 r2 x0 x1 x2 x3 y0 y1 y2 y3 z0 z1 z2 z3 v0 v1 v2 v3 f0 f1 f2 f3 h0 h1 h2 h3 HG HD; have HG := hide HGn.out; have HD := hide HDn.out; clear HGn HDn hg; obtain ⟨⟨r0, r1, r2⟩, ⟨x0, x1, x2, x3⟩, ⟨y0, y1, y2, y3⟩, ⟨z0, z1, z2, z3⟩, ⟨v0, v1, v2, v3⟩, ⟨f0, f1, f2, f3⟩, ⟨h0, h1, h2, h3⟩⟩ := HD.out.vis))
            | (go_at_call 118; refine (HE.out _ HG.out).mono ?_; rintro e wq ⟨hg, A, c, rfl, ho⟩; have HO := hide (own_low ho HG.out.size); have HOB : Hid (∀ b, (Value.slice A l.length c).ownBlock = some b → w.heap.size + 4 < b) := hide (fun b e => Nat.lt_of_lt_of_le (blk_lt HD.out.v) (ho.lt b e).1); clear ho; have HGn := hide (gb_trans HG.out hg (.inl rfl)); have HDn := hide (HD.out.gb hg); clear r0 r1 r2 x0 x1 x2 x3 y0 y1 y2 y3 z0 z1 z2 z3 v0 v1 v2 v3 f0 f1 f2 f3 h0 h1 h2 h3 HG HD; have HG := hide HGn.out; have HD := hide HDn.out; clear HGn HDn hg; obtain ⟨⟨r0, r1, r2⟩, ⟨x0, x1, x2, x3⟩, ⟨y0, y1, y2, y3⟩, ⟨z0, z1, z2, z3⟩, ⟨v0, v1, v2, v3⟩, ⟨f0, f1, f2, f3⟩, ⟨h0, h1, h2, h3⟩⟩ := HD.out.vis)
            | (go_at_call 119; refine (like_any _ _ _ _ _ _ ⟨by decide, by decide⟩ ⟨A, l.length, c, rfl⟩ _).mono ?_; rintro e wr ⟨rfl, hg⟩; have HON := hide (HO.out.kept hg (by cases (Value.slice A l.length c).ownBlock <;> simp)); clear HO; have HGn := hide (gb_trans HG.out hg (.inl rfl)); have HDn := hide (HD.out.gb hg); clear r0 r1 r2 x0 x1 x2 x3 y0 y1 y2 y3 z0 z1 z2 z3 v0 v1 v2 v3 f0 f1 f2 f3 h0 h1 h2 h3 HG HD; have HG := hide HGn.out; have HD := hide HDn.out; clear HGn HDn hg; obtain ⟨⟨r0, r1, r2⟩, ⟨x0, x1, x2, x3⟩, ⟨y0, y1, y2, y3⟩, ⟨z0, z1, z2, z3⟩, ⟨v0, v1, v2, v3⟩, ⟨f0, f1, f2, f3⟩, ⟨h0, h1, h2, h3⟩⟩ := HD.out.vis))
          have hb := put_four HD.out.z (.int .i64 (likeT x.t 2)) (.slice A l.length c) (.slice none 0 0) (.slice none 0 0)
          have m0 : ((((wr.setCell ⟨w.heap.size + 1 + 1 + 1, 0, none⟩ (.int .i64 (likeT x.t 2))).setCell ⟨w.heap.size + 1 + 1 + 1, 1, none⟩ (.slice A l.length c)).setCell ⟨w.heap.size + 1 + 1 + 1, 2, none⟩ (.slice none 0 0)).setCell ⟨w.heap.size + 1 + 1 + 1, 3, none⟩ (.slice none 0 0)).cell? ⟨w.heap.size + 1 + 1 + 1, 0, none⟩ = some (.int .i64 (likeT x.t 2)) := (blk_cell hb 0).trans rfl
          have m1 : ((((wr.setCell ⟨w.heap.size + 1 + 1 + 1, 0, none⟩ (.int .i64 (likeT x.t 2))).setCell ⟨w.heap.size + 1 + 1 + 1, 1, none⟩ (.slice A l.length c)).setCell ⟨w.heap.size + 1 + 1 + 1, 2, none⟩ (.slice none 0 0)).setCell ⟨w.heap.size + 1 + 1 + 1, 3, none⟩ (.slice none 0 0)).cell? ⟨w.heap.size + 1 + 1 + 1, 1, none⟩ = some (.slice A l.length c) := (blk_cell hb 1).trans rfl
          have m2 : ((((wr.setCell ⟨w.heap.size + 1 + 1 + 1, 0, none⟩ (.int .i64 (likeT x.t 2))).setCell ⟨w.heap.size + 1 + 1 + 1, 1, none⟩ (.slice A l.length c)).setCell ⟨w.heap.size + 1 + 1 + 1, 2, none⟩ (.slice none 0 0)).setCell ⟨w.heap.size + 1 + 1 + 1, 3, none⟩ (.slice none 0 0)).cell? ⟨w.heap.size + 1 + 1 + 1, 2, none⟩ = some (.slice none 0 0) := (blk_cell hb 2).trans rfl
          have m3 : ((((wr.setCell ⟨w.heap.size + 1 + 1 + 1, 0, none⟩ (.int .i64 (likeT x.t 2))).setCell ⟨w.heap.size + 1 + 1 + 1, 1, none⟩ (.slice A l.length c)).setCell ⟨w.heap.size + 1 + 1 + 1, 2, none⟩ (.slice none 0 0)).setCell ⟨w.heap.size + 1 + 1 + 1, 3, none⟩ (.slice none 0 0)).cell? ⟨w.heap.size + 1 + 1 + 1, 3, none⟩ = some (.slice none 0 0) := (blk_cell hb 3).trans rfl
          have hon := HON.out.kept (put_four_row wr (w.heap.size + 3) (.int .i64 (likeT x.t 2)) (.slice A l.length c) (.slice none 0 0) (.slice none 0 0)) (.inr (fun e => by have := HOB.out _ e; omega))
          obtain ⟨_, _, e9, hc9, _⟩ := own_form hon
          injection e9 with _ _ e9
          exact bodyPost_ret (v := .tuple #[.agg #[.int .i64 (likeT x.t 2), .slice A l.length c, .slice none 0 0, .slice none 0 0], .int .i64 0]) (by simp [results, Tryz.results72, go_sem, m0, m1, m2, m3]) rfl ⟨put_four_gb HG.out (Nat.le_add_right _ 3) _ _ _ _, by rw [HDI.out]; exact ⟨A, c, e9 ▸ hc9, by rw [HLK.out], hon⟩⟩
      · have HDI := hide (show doI f x y = .error 32 by unfold doI; rw [if_pos hxt, if_pos ⟨hyt, hl⟩])
        have hl1 : ((y.n.length : Int) == (x.n.length : Int)) = false := int_beq_f (by omega)
        have hl2 : ((y.n.length : Int) != (x.n.length : Int)) = true := int_bne_f (by omega)
        clear hxt hyt hl HEA
        go_enter Tryz.func72, Tryz.ntmps72
        go_wp2_with fail
        rw [← HW.out]
        go_wp2_with (first
          | (go_at_call 116; refine (isAtom_any _ _ _ _ _).mono ?_; rintro e wp ⟨rfl, hg⟩; have HGn := hide (gb_trans HG.out hg (.inl rfl)); have HDn := hide (HD.out.gb hg); clear r0 r1 r2 x0 x1 x2 x3 y0 y1 y2 y3 z0 z1 z2 z3 v0 v1 v2 v3 f0 f1 f2 f3 h0 h1 h2 h3 HG HD; have HG := hide HGn.out; have HD := hide HDn.out; clear HGn HDn hg; obtain ⟨⟨r0, r1, r2⟩, ⟨x0, x1, x2, x3⟩, ⟨y0, y1, y2, y3⟩, ⟨z0, z1, z2, z3⟩, ⟨v0, v1, v2, v3⟩, ⟨f0, f1, f2, f3⟩, ⟨h0, h1, h2, h3⟩⟩ := HD.out.vis)
          | (go_at_call 35; first | (have _m := MC; clear MC _m; refine (HCX.out _ HG.out).mono ?_; rintro e wq ⟨rfl, hg⟩; have HGn := hide (gb_trans HG.out hg (.inl rfl)); have HDn := hide (HD.out.gb hg); clear r0 r1 r2 x0 x1 x2 x3 y0 y1 y2 y3 z0 z1 z2 z3 v0 v1 v2 v3 f0 f1 f2 f3 h0 h1 h2 h3 HG HD; have HG := hide HGn.out; have HD := hide HDn.out; clear HGn HDn hg; obtain ⟨⟨r0, r1, r2⟩, ⟨x0, x1, x2, x3⟩, ⟨y0, y1, y2, y3⟩, ⟨z0, z1, z2, z3⟩, ⟨v0, v1, v2, v3⟩, ⟨f0, f1, f2, f3⟩, ⟨h0, h1, h2, h3⟩⟩ := HD.out.vis) | (refine (HCY.out _ HG.out).mono ?_; rintro e wq ⟨rfl, hg⟩; have HGn := hide (gb_trans HG.out hg (.inl rfl)); have HDn := hide (HD.out.gb hg); clear r0 r1 r2 x0 x1 x2 x3 y0 y1 y2 y3 z0 z1 z2 z3 v0 v1 v2 v3 f0 f1 f2 f3 h0 h1 h2 h3 HG HD; have HG := hide HGn.out; have HD := hide HDn.out; clear HGn HDn hg; obtain ⟨⟨r0, r1, r2⟩, ⟨x0, x1, x2, x3⟩, ⟨y0, y1, y2, y3⟩, ⟨z0, z1, z2, z3⟩, ⟨v0, v1, v2, v3⟩, ⟨f0, f1, f2, f3⟩, ⟨h0, h1, h2, h3⟩⟩ := HD.out.vis)))
        have hb := put_four HD.out.z (.int .i64 0) (.slice none 0 0) (.slice none 0 0) (.slice none 0 0)
        have m0 : ((((wq.setCell ⟨w.heap.size + 1 + 1 + 1, 0, none⟩ (.int .i64 0)).setCell ⟨w.heap.size + 1 + 1 + 1, 1, none⟩ (.slice none 0 0)).setCell ⟨w.heap.size + 1 + 1 + 1, 2, none⟩ (.slice none 0 0)).setCell ⟨w.heap.size + 1 + 1 + 1, 3, none⟩ (.slice none 0 0)).cell? ⟨w.heap.size + 1 + 1 + 1, 0, none⟩ = some (.int .i64 0) := (blk_cell hb 0).trans rfl
        have m1 : ((((wq.setCell ⟨w.heap.size + 1 + 1 + 1, 0, none⟩ (.int .i64 0)).setCell ⟨w.heap.size + 1 + 1 + 1, 1, none⟩ (.slice none 0 0)).setCell ⟨w.heap.size + 1 + 1 + 1, 2, none⟩ (.slice none 0 0)).setCell ⟨w.heap.size + 1 + 1 + 1, 3, none⟩ (.slice none 0 0)).cell? ⟨w.heap.size + 1 + 1 + 1, 1, none⟩ = some (.slice none 0 0) := (blk_cell hb 1).trans rfl
        have m2 : ((((wq.setCell ⟨w.heap.size + 1 + 1 + 1, 0, none⟩ (.int .i64 0)).setCell ⟨w.heap.size + 1 + 1 + 1, 1, none⟩ (.slice none 0 0)).setCell ⟨w.heap.size + 1 + 1 + 1, 2, none⟩ (.slice none 0 0)).setCell ⟨w.heap.size + 1 + 1 + 1, 3, none⟩ (.slice none 0 0)).cell? ⟨w.heap.size + 1 + 1 + 1, 2, none⟩ = some (.slice none 0 0) := (blk_cell hb 2).trans rfl
        have m3 : ((((wq.setCell ⟨w.heap.size + 1 + 1 + 1, 0, none⟩ (.int .i64 0)).setCell ⟨w.heap.size + 1 + 1 + 1, 1, none⟩ (.slice none 0 0)).setCell ⟨w.heap.size + 1 + 1 + 1, 2, none⟩ (.slice none 0 0)).setCell ⟨w.heap.size + 1 + 1 + 1, 3, none⟩ (.slice none 0 0)).cell? ⟨w.heap.size + 1 + 1 + 1, 3, none⟩ = some (.slice none 0 0) := (blk_cell hb 3).trans rfl
        exact bodyPost_ret (v := .tuple #[.agg #[.int .i64 0, .slice none 0 0, .slice none 0 0, .slice none 0 0], .int .i64 32]) (by simp [results, Tryz.results72, go_sem, m0, m1, m2, m3]) rfl ⟨put_four_gb HG.out (Nat.le_add_right _ 3) _ _ _ _, by rw [HDI.out]⟩
    · have ay : atomT y.t = true := by rw [hyt]; rfl
      have HDI := hide (show doI f x y = match eachO f x.n y.n 0 x.n.length with | none => .error 70 | some l => .ok (2, l) by unfold doI; rw [if_pos hxt, if_neg (fun h => by rw [hyt] at h; exact absurd h.1 (by decide))])
      have HEC := hide (HEA.out x.n.length HNX.out id (fun _ => by omega))
      clear hxt hyt hy1
      cases hE : eachO f x.n y.n 0 x.n.length with
      | none =>
        rw [hE] at HDI HEC
        have HE := hide (fun w2 (hg : w.grownBy w2 none) => HEC.out w2 hg)
        clear HEC HEA hE
        go_enter Tryz.func72, Tryz.ntmps72
        go_wp2_with fail
        rw [← HW.out]
        go_wp2_with (first
          | (go_at_call 116; refine (isAtom_any _ _ _ _ _).mono ?_; rintro e wp ⟨rfl, hg⟩; have HGn := hide (gb_trans HG.out hg (.inl rfl)); have HDn := hide (HD.out.gb hg); clear r0 r1 r2 x0 x1 x2 x3 y0 y1 y2 y3 z0 z1 z2 z3 v0 v1 v2 v3 f0 f1 f2 f3 h0 h1 h2 h3 HG HD; have HG := hide HGn.out; have HD := hide HDn.out; clear HGn HDn hg; obtain ⟨⟨r0, r1, r2⟩, ⟨x0, x1, x2, x3⟩, ⟨y0, y1, y2, y3⟩, ⟨z0, z1, z2, z3⟩, ⟨v0, v1, v2, v3⟩, ⟨f0, f1, f2, f3⟩, ⟨h0, h1, h2, h3⟩⟩ := HD.out.vis)
          | (go_at_call 35; first | (have _m := MC; clear MC _m; refine (HCX.out _ HG.out).mono ?_; rintro e wq ⟨rfl, hg⟩; have HGn := hide (gb_trans HG.out hg (.inl rfl)); have HDn := hide (HD.out.gb hg); clear r0 r1 r2 x0 x1 x2 x3 y0 y1 y2 y3 z0 z1 z2 z3 v0 v1 v2 v3 f0 f1 f2 f3 h0 h1 h2 h3 HG HD; have HG := hide HGn.out; have HD := hide HDn.out; clear HGn HDn hg; obtain ⟨⟨r0, r1, r2⟩, ⟨x0, x1, x2, x3⟩, ⟨y0, y1, y2, y3⟩, ⟨z0, z1, z2, z3⟩, ⟨v0, v1, v2, v3⟩, ⟨f0, f1, f2, f3⟩, ⟨h0, h1, h2, h3⟩⟩ := HD.out.vis) | (refine (HCY.out _ HG.out).mono ?_; rintro e wq ⟨rfl, hg⟩; have HGn := hide (gb_trans HG.out hg (.inl rfl)); have HDn := hide (HD.out.gb hg); clear r0 r1 r2 x0 x1 x2 x3 y0 y1 y2 y3 z0 z1 z2 z3 v0 v1 v2 v3 f0 f1 f2 f3 h0 h1 h2 h3 HG HD; have HG := hide HGn.out; have HD := hide HDn.out; clear HGn HDn hg; obtain ⟨⟨r0, r1, r2⟩, ⟨x0, x1, x2, x3⟩, ⟨y0, y1, y2, y3⟩, ⟨z0, z1, z2, z3⟩, ⟨v0, v1, v2, v3⟩, ⟨f0, f1, f2, f3⟩, ⟨h0, h1, h2, h3⟩⟩ := HD.out.vis))
          | (go_at_call 118; refine (HE.out _ HG.out).mono ?_; rintro e wq ⟨hg, rfl⟩; have HGn := hide (gb_trans HG.out hg (.inl rfl)); have HDn := hide (HD.out.gb hg); clear r0 r1 r2 x0 x1 x2 x3 y0 y1 y2 y3 z0 z1 z2 z3 v0 v1 v2 v3 f0 f1 f2 f3 h0 h1 h2 h3 HG HD; have HG := hide HGn.out; have HD := hide HDn.out; clear HGn HDn hg; obtain ⟨⟨r0, r1, r2⟩, ⟨x0, x1, x2, x3⟩, ⟨y0, y1, y2, y3⟩, ⟨z0, z1, z2, z3⟩, ⟨v0, v1, v2, v3⟩, ⟨f0, f1, f2, f3⟩, ⟨h0, h1, h2, h3⟩⟩ := HD.out.vis))
        have hb := put_four HD.out.z (.int .i64 0) (.slice none 0 0) (.slice none 0 0) (.slice none 0 0)
        have m0 : ((((wq.setCell ⟨w.heap.size + 1 + 1 + 1, 0, none⟩ (.int .i64 0)).setCell ⟨w.heap.size + 1 + 1 + 1, 1, none⟩ (.slice none 0 0)).setCell ⟨w.heap.size + 1 + 1 + 1, 2, none⟩ (.slice none 0 0)).setCell ⟨w.heap.size + 1 + 1 + 1, 3, none⟩ (.slice none 0 0)).cell? ⟨w.heap.size + 1 + 1 + 1, 0, none⟩ = some (.int .i64 0) := (blk_cell hb 0).trans rfl
        have m1 : ((((wq.setCell ⟨w.heap.size + 1 + 1 + 1, 0, none⟩ (.int .i64 0)).setCell ⟨w.heap.size + 1 + 1 + 1, 1, none⟩ (.slice none 0 0)).setCell ⟨w.heap.size + 1 + 1 + 1, 2, none⟩ (.slice none 0 0)).setCell ⟨w.heap.size + 1 + 1 + 1, 3, none⟩ (.slice none 0 0)).cell? ⟨w.heap.size + 1 + 1 + 1, 1, none⟩ = some (.slice none 0 0) := (blk_cell hb 1).trans rfl
        have m2 : ((((wq.setCell ⟨w.heap.size + 1 + 1 + 1, 0, none⟩ (.int .i64 0)).setCell ⟨w.heap.size + 1 + 1 + 1, 1, none⟩ (.slice none 0 0)).setCell ⟨w.heap.size + 1 + 1 + 1, 2, none⟩ (.slice none 0 0)).setCell ⟨w.heap.size + 1 + 1 + 1, 3, none⟩ (.slice none 0 0)).cell? ⟨w.heap.size + 1 + 1 + 1, 2, none⟩ = some (.slice none 0 0) := (blk_cell hb 2).trans rfl
        have m3 : ((((wq.setCell ⟨w.heap.size + 1 + 1 + 1, 0, none⟩ (.int .i64 0)).setCell ⟨w.heap.size + 1 + 1 + 1, 1, none⟩ (.slice none 0 0)).setCell ⟨w.heap.size + 1 + 1 + 1, 2, none⟩ (.slice none 0 0)).setCell ⟨w.heap.size + 1 + 1 + 1, 3, none⟩ (.slice none 0 0)).cell? ⟨w.heap.size + 1 + 1 + 1, 3, none⟩ = some (.slice none 0 0) := (blk_cell hb 3).trans rfl
        exact bodyPost_ret (v := .tuple #[.agg #[.int .i64 0, .slice none 0 0, .slice none 0 0, .slice none 0 0], .int .i64 70]) (by simp [results, Tryz.results72, go_sem, m0, m1, m2, m3]) rfl ⟨put_four_gb HG.out (Nat.le_add_right _ 3) _ _ _ _, by rw [HDI.out]⟩
      | some l =>
        rw [hE] at HDI HEC
        have HE := hide (fun w2 (hg : w.grownBy w2 none) => HEC.out w2 hg)
        clear HEC HEA hE
        go_enter Tryz.func72, Tryz.ntmps72
        go_wp2_with fail
        rw [← HW.out]
        go_wp2_with (first
          | (go_at_call 116; refine (isAtom_any _ _ _ _ _).mono ?_; rintro e wp ⟨rfl, hg⟩; have HGn := hide (gb_trans HG.out hg (.inl rfl)); have HDn := hide (HD.out.gb hg); clear r0 r1 r2 x0 x1 x2 x3 y0 y1 y2 y3 z0 z1 z2 z3 v0 v1 v2 v3 f0 f1 f2 f3 h0 h1 h2 h3 HG HD; have HG := hide HGn.out; have HD := hide HDn.out; clear HGn HDn hg; obtain ⟨⟨r0, r1, r2⟩, ⟨x0, x1, x2, x3⟩, ⟨y0, y1, y2, y3⟩, ⟨z0, z1, z2, z3⟩, ⟨v0, v1, v2, v3⟩, ⟨f0, f1, f2, f3⟩, ⟨h0, h1, h2, h3⟩⟩ := HD.out.vis)
          | (go_at_call 35; first | (have _m := MC; clear MC _m; refine (HCX.out _ HG.out).mono ?_; rintro e wq ⟨rfl, hg⟩; have HGn := hide (gb_trans HG.out hg (.inl rfl)); have HDn := hide (HD.out.gb hg); clear r0 r1 r2 x0 x1 x2 x3 y0 y1 y2 y3 z0 z1 z2 z3 v0 v1 v2 v3 f0 f1 f2 f3 h0 h1 h2 h3 HG HD; have HG := hide HGn.out; have HD := hide HDn.out; clear HGn HDn hg; obtain ⟨⟨r0, r1, r2⟩, ⟨x0, x1, x2, x3⟩, ⟨y0, y1, y2, y3⟩, ⟨z0, z1, z2, z3⟩, ⟨v0, v1, v2, v3⟩, ⟨f0, f1, f2, f3⟩, ⟨h0, h1, h2, h3⟩⟩ := HD.out.vis) | (refine (HCY.out _ HG.out).mono ?_; rintro e wq ⟨rfl, hg⟩; have HGn := hide (gb_trans HG.out hg (.inl rfl)); have HDn := hide (HD.out.gb hg); clear r0 r1 r2 x0 x1 x2 x3 y0 y1 y2 y3 z0 z1 z2 z3 v0 v1 v2 v3 f0 f1 f2 f3 h0 h1 h2 h3 HG HD; have HG := hide HGn.out; have HD := hide HDn.out; clear HGn HDn hg; obtain ⟨⟨r0, r1, r2⟩, ⟨x0, x1, x2, x3⟩, ⟨y0, y1, y2, y3⟩, ⟨z0, z1, z2, z3⟩, ⟨v0, v1, v2, v3⟩, ⟨f0, f1, f2, f3⟩, ⟨h0, h1, h2, h3⟩⟩ := HD.out.vis))
          | (go_at_call 118; refine (HE.out _ HG.out).mono ?_; rintro e wq ⟨hg, A, c, rfl, ho⟩; have HO := hide (own_low ho HG.out.size); have HOB : Hid (∀ b, (Value.slice A l.length c).ownBlock = some b → w.heap.size + 4 < b) := hide (fun b e => Nat.lt_of_lt_of_le (blk_lt HD.out.v) (ho.lt b e).1); clear ho; have HGn := hide (gb_trans HG.out hg (.inl rfl)); have HDn := hide (HD.out.gb hg); clear r0 r1 r2 x0 x1 x2 x3 y0 y1 y2 y3 z0 z1 z2 z3 v0 v1 v2 v3 f0 f1 f2 f3 h0 h1 h2 h3 HG HD; have HG := hide HGn.out; have HD := hide HDn.out; clear HGn HDn hg; obtain ⟨⟨r0, r1, r2⟩, ⟨x0, x1, x2, x3⟩, ⟨y0, y1, y2, y3⟩, ⟨z0, z1, z2, z3⟩, ⟨v0, v1, v2, v3⟩, ⟨f0, f1, f2, f3⟩, ⟨h0, h1, h2, h3⟩⟩ := HD.out.vis)
          | (go_at_call 119; refine (like_any _ _ _ _ _ _ ⟨by decide, by decide⟩ ⟨A, l.length, c, rfl⟩ _).mono ?_; rintro e wr ⟨rfl, hg⟩; have HON := hide (HO.out.kept hg (by cases (Value.slice A l.length c).ownBlock <;> simp)); clear HO; have HGn := hide (gb_trans HG.out hg (.inl rfl)); have HDn := hide (HD.out.gb hg); clear r0 r1 r2 x0 x1 x2 x3 y0 y1 y2 y3 z0 z1 z2 z3 v0 v1 v2 v3 f0 f1 f2 f3 h0 h1 h2 h3 HG HD; have HG := hide HGn.out; have HD := hide HDn.out; clear HGn HDn hg; obtain ⟨⟨r0, r1, r2⟩, ⟨x0, x1, x2, x3⟩, ⟨y0, y1, y2, y3⟩, ⟨z0, z1, z2, z3⟩, ⟨v0, v1, v2, v3⟩, ⟨f0, f1, f2, f3⟩, ⟨h0, h1, h2, h3⟩⟩ := HD.out.vis))
        have hb := put_four HD.out.z (.int .i64 (likeT x.t 2)) (.slice A l.length c) (.slice none 0 0) (.slice none 0 0)
        have m0 : ((((wr.setCell ⟨w.heap.size + 1 + 1 + 1, 0, none⟩ (.int .i64 (likeT x.t 2))).setCell ⟨w.heap.size + 1 + 1 + 1, 1, none⟩ (.slice A l.length c)).setCell ⟨w.heap.size + 1 + 1 + 1, 2, none⟩ (.slice none 0 0)).setCell ⟨w.heap.size + 1 + 1 + 1, 3, none⟩ (.slice none 0 0)).cell? ⟨w.heap.size + 1 + 1 + 1, 0, none⟩ = some (.int .i64 (likeT x.t 2)) := (blk_cell hb 0).trans rfl
        have m1 : ((((wr.setCell ⟨w.heap.size + 1 + 1 + 1, 0, none⟩ (.int .i64 (likeT x.t 2))).setCell ⟨w.heap.size + 1 + 1 + 1, 1, none⟩ (.slice A l.length c)).setCell ⟨w.heap.size + 1 + 1 + 1, 2, none⟩ (.slice none 0 0)).setCell ⟨w.heap.size + 1 + 1 + 1, 3, none⟩ (.slice none 0 0)).cell? ⟨w.heap.size + 1 + 1 + 1, 1, none⟩ = some (.slice A l.length c) := (blk_cell hb 1).trans rfl
        have m2 : ((((wr.setCell ⟨w.heap.size + 1 + 1 + 1, 0, none⟩ (.int .i64 (likeT x.t 2))).setCell ⟨w.heap.size + 1 + 1 + 1, 1, none⟩ (.slice A l.length c)).setCell ⟨w.heap.size + 1 + 1 + 1, 2, none⟩ (.slice none 0 0)).setCell ⟨w.heap.size + 1 + 1 + 1, 3, none⟩ (.slice none 0 0)).cell? ⟨w.heap.size + 1 + 1 + 1, 2, none⟩ = some (.slice none 0 0) := (blk_cell hb 2).trans rfl
        have m3 : ((((wr.setCell ⟨w.heap.size + 1 + 1 + 1, 0, none⟩ (.int .i64 (likeT x.t 2))).setCell ⟨w.heap.size + 1 + 1 + 1, 1, none⟩ (.slice A l.length c)).setCell ⟨w.heap.size + 1 + 1 + 1, 2, none⟩ (.slice none 0 0)).setCell ⟨w.heap.size + 1 + 1 + 1, 3, none⟩ (.slice none 0 0)).cell? ⟨w.heap.size + 1 + 1 + 1, 3, none⟩ = some (.slice none 0 0) := (blk_cell hb 3).trans rfl
        have hon := HON.out.kept (put_four_row wr (w.heap.size + 3) (.int .i64 (likeT x.t 2)) (.slice A l.length c) (.slice none 0 0) (.slice none 0 0)) (.inr (fun e => by have := HOB.out _ e; omega))
        obtain ⟨_, _, e9, hc9, _⟩ := own_form hon
        injection e9 with _ _ e9
        exact bodyPost_ret (v := .tuple #[.agg #[.int .i64 (likeT x.t 2), .slice A l.length c, .slice none 0 0, .slice none 0 0], .int .i64 0]) (by simp [results, Tryz.results72, go_sem, m0, m1, m2, m3]) rfl ⟨put_four_gb HG.out (Nat.le_add_right _ 3) _ _ _ _, by rw [HDI.out]; exact ⟨A, c, e9 ▸ hc9, by rw [HLK.out], hon⟩⟩
  · have ax : atomT x.t = true := by rw [hxt]; rfl
    have HDI := hide (show doI f x y = match eachO f x.n y.n 0 y.n.length with | none => .error 70 | some l => .ok (y.t, l) by unfold doI; rw [if_neg (by rw [hxt]; decide)])
    have HEC := hide (HEA.out y.n.length HNY.out (fun _ => by omega) id)
    rcases HU.out with hyt | ⟨hyt, hy1⟩
    · have ay : atomT y.t = false := by rw [hyt]; rfl
      have HLK := hide (show likeT y.t 2 = y.t by unfold likeT; rw [ay, hyt]; rfl)
      have hl2 : ((y.n.length : Int) != (y.n.length : Int)) = false := by simp
      clear hxt hyt hx1
      cases hE : eachO f x.n y.n 0 y.n.length with
      | none =>
        rw [hE] at HDI HEC
        have HE := hide (fun w2 (hg : w.grownBy w2 none) => HEC.out w2 hg)
        clear HEC HEA hE
        go_enter Tryz.func72, Tryz.ntmps72
        go_wp2_with fail
        rw [← HW.out]
        go_wp2_with (first
          | (go_at_call 116; refine (isAtom_any _ _ _ _ _).mono ?_; rintro e wp ⟨rfl, hg⟩; have HGn := hide (gb_trans HG.out hg (.inl rfl)); have HDn := hide (HD.out.gb hg); clear r0 r1 r2 x0 x1 x2 x3 y0 y1 y2 y3 z0 z1 z2 z3 v0 v1 v2 v3 f0 f1 f2 f3 h0 h1 h2 h3 HG HD; have HG := hide HGn.out; have HD := hide HDn.out; clear HGn HDn hg; obtain ⟨⟨r0, r1, r2⟩, ⟨x0, x1, x2, x3⟩, ⟨y0, y1, y2, y3⟩, ⟨z0, z1, z2, z3⟩, ⟨v0, v1, v2, v3⟩, ⟨f0, f1, f2, f3⟩, ⟨h0, h1, h2, h3⟩⟩ := HD.out.vis)
          | (go_at_call 35; first | (have _m := MC; clear MC _m; refine (HCY.out _ (put_four_gb HG.out (Nat.le_add_right _ 4) (.int .i64 y.t) (.slice mA y.n.length mc) (.slice tA y.s.length tc) (.slice kA y.l.length kc))).mono ?_; rintro e wq ⟨rfl, hg⟩; have HGn := hide (gb_trans (put_four_gb HG.out (Nat.le_add_right _ 4) (.int .i64 y.t) (.slice mA y.n.length mc) (.slice tA y.s.length tc) (.slice kA y.l.length kc)) hg (.inl rfl)); have HDn := hide ((HD.out.wide (.int .i64 y.t) (.slice mA y.n.length mc) (.slice tA y.s.length tc) (.slice kA y.l.length kc)).gb hg); clear r0 r1 r2 x0 x1 x2 x3 y0 y1 y2 y3 z0 z1 z2 z3 v0 v1 v2 v3 f0 f1 f2 f3 h0 h1 h2 h3 HG HD; have HG := hide HGn.out; have HD := hide HDn.out; clear HGn HDn hg; obtain ⟨⟨r0, r1, r2⟩, ⟨x0, x1, x2, x3⟩, ⟨y0, y1, y2, y3⟩, ⟨z0, z1, z2, z3⟩, ⟨v0, v1, v2, v3⟩, ⟨f0, f1, f2, f3⟩, ⟨h0, h1, h2, h3⟩⟩ := HD.out.vis) | (refine (HCY.out _ HG.out).mono ?_; rintro e wq ⟨rfl, hg⟩; have HGn := hide (gb_trans HG.out hg (.inl rfl)); have HDn := hide (HD.out.gb hg); clear r0 r1 r2 x0 x1 x2 x3 y0 y1 y2 y3 z0 z1 z2 z3 v0 v1 v2 v3 f0 f1 f2 f3 h0 h1 h2 h3 HG HD; have HG := hide HGn.out; have HD := hide HDn.out; clear HGn HDn hg; obtain ⟨⟨r0, r1, r2⟩, ⟨x0, x1, x2, x3⟩, ⟨y0, y1, y2, y3⟩, ⟨z0, z1, z2, z3⟩, ⟨v0, v1, v2, v3⟩, ⟨f0, f1, f2, f3⟩, ⟨h0, h1, h2, h3⟩⟩ := HD.out.vis))
          | (go_at_call 118; refine (HE.out _ HG.out).mono ?_; rintro e wq ⟨hg, rfl⟩; have HGn := hide (gb_trans HG.out hg (.inl rfl)); have HDn := hide (HD.out.gb hg); clear r0 r1 r2 x0 x1 x2 x3 y0 y1 y2 y3 z0 z1 z2 z3 v0 v1 v2 v3 f0 f1 f2 f3 h0 h1 h2 h3 HG HD; have HG := hide HGn.out; have HD := hide HDn.out; clear HGn HDn hg; obtain ⟨⟨r0, r1, r2⟩, ⟨x0, x1, x2, x3⟩, ⟨y0, y1, y2, y3⟩, ⟨z0, z1, z2, z3⟩, ⟨v0, v1, v2, v3⟩, ⟨f0, f1, f2, f3⟩, ⟨h0, h1, h2, h3⟩⟩ := HD.out.vis))
        have hb := put_four HD.out.z (.int .i64 0) (.slice none 0 0) (.slice none 0 0) (.slice none 0 0)
        have m0 : ((((wq.setCell ⟨w.heap.size + 1 + 1 + 1, 0, none⟩ (.int .i64 0)).setCell ⟨w.heap.size + 1 + 1 + 1, 1, none⟩ (.slice none 0 0)).setCell ⟨w.heap.size + 1 + 1 + 1, 2, none⟩ (.slice none 0 0)).setCell ⟨w.heap.size + 1 + 1 + 1, 3, none⟩ (.slice none 0 0)).cell? ⟨w.heap.size + 1 + 1 + 1, 0, none⟩ = some (.int .i64 0) := (blk_cell hb 0).trans rfl
        have m1 : ((((wq.setCell ⟨w.heap.size + 1 + 1 + 1, 0, none⟩ (.int .i64 0)).setCell ⟨w.heap.size + 1 + 1 + 1, 1, none⟩ (.slice none 0 0)).setCell ⟨w.heap.size + 1 + 1 + 1, 2, none⟩ (.slice none 0 0)).setCell ⟨w.heap.size + 1 + 1 + 1, 3, none⟩ (.slice none 0 0)).cell? ⟨w.heap.size + 1 + 1 + 1, 1, none⟩ = some (.slice none 0 0) := (blk_cell hb 1).trans rfl
        have m2 : ((((wq.setCell ⟨w.heap.size + 1 + 1 + 1, 0, none⟩ (.int .i64 0)).setCell ⟨w.heap.size + 1 + 1 + 1, 1, none⟩ (.slice none 0 0)).setCell ⟨w.heap.size + 1 + 1 + 1, 2, none⟩ (.slice none 0 0)).setCell ⟨w.heap.size + 1 + 1 + 1, 3, none⟩ (.slice none 0 0)).cell? ⟨w.heap.size + 1 + 1 + 1, 2, none⟩ = some (.slice none 0 0) := (blk_cell hb 2).trans rfl
        have m3 : ((((wq.setCell ⟨w.heap.size + 1 + 1 + 1, 0, none⟩ (.int .i64 0)).setCell ⟨w.heap.size + 1 + 1 + 1, 1, none⟩ (.slice none 0 0)).setCell ⟨w.heap.size + 1 + 1 + 1, 2, none⟩ (.slice none 0 0)).setCell ⟨w.heap.size + 1 + 1 + 1, 3, none⟩ (.slice none 0 0)).cell? ⟨w.heap.size + 1 + 1 + 1, 3, none⟩ = some (.slice none 0 0) := (blk_cell hb 3).trans rfl
        exact bodyPost_ret (v := .tuple #[.agg #[.int .i64 0, .slice none 0 0, .slice none 0 0, .slice none 0 0], .int .i64 70]) (by simp [results, Tryz.results72, go_sem, m0, m1, m2, m3]) rfl ⟨put_four_gb HG.out (Nat.le_add_right _ 3) _ _ _ _, by rw [HDI.out]⟩
      | some l =>
        rw [hE] at HDI HEC
        have HE := hide (fun w2 (hg : w.grownBy w2 none) => HEC.out w2 hg)
        clear HEC HEA hE
        go_enter Tryz.func72, Tryz.ntmps72
        go_wp2_with fail
        rw [← HW.out]
        go_wp2_with (first
          | (go_at_call 116; refine (isAtom_any _ _ _ _ _).mono ?_; rintro e wp ⟨rfl, hg⟩; have HGn := hide (gb_trans HG.out hg (.inl rfl)); have HDn := hide (HD.out.gb hg); clear r0 r1 r2 x0 x1 x2 x3 y0 y1 y2 y3 z0 z1 z2 z3 v0 v1 v2 v3 f0 f1 f2 f3 h0 h1 h2 h3 HG HD; have HG := hide HGn.out; have HD := hide HDn.out; clear HGn HDn hg; obtain ⟨⟨r0, r1, r2⟩, ⟨x0, x1, x2, x3⟩, ⟨y0, y1, y2, y3⟩, ⟨z0, z1, z2, z3⟩, ⟨v0, v1, v2, v3⟩, ⟨f0, f1, f2, f3⟩, ⟨h0, h1, h2, h3⟩⟩ := HD.out.vis)
          | (go_at_call 35; first | (have _m := MC; clear MC _m; refine (HCY.out _ (put_four_gb HG.out (Nat.le_add_right _ 4) (.int .i64 y.t) (.slice mA y.n.length mc) (.slice tA y.s.length tc) (.slice kA y.l.length kc))).mono ?_; rintro e wq ⟨rfl, hg⟩; have HGn := hide (gb_trans (put_four_gb HG.out (Nat.le_add_right _ 4) (.int .i64 y.t) (.slice mA y.n.length mc) (.slice tA y.s.length tc) (.slice kA y.l.length kc)) hg (.inl rfl)); have HDn := hide ((HD.out.wide (.int .i64 y.t) (.slice mA y.n.length mc) (.slice tA y.s.length tc) (.slice kA y.l.length kc)).gb hg); clear r0 r1 r2 x0 x1 x2 x3 y0 y1 y2 y3 z0 z1 z2 z3 v0 v1 v2 v3 f0 f1 f2 f3 h0 h1 h2 h3 HG HD; have HG := hide HGn.out; have HD := hide HDn.out; clear HGn HDn hg; obtain ⟨⟨r0, r1, r2⟩, ⟨x0, x1, x2, x3⟩, ⟨y0, y1, y2, y3⟩, ⟨z0, z1, z2, z3⟩, ⟨v0, v1, v2, v3⟩, ⟨f0, f1, f2, f3⟩, ⟨h0, h1, h2, h3⟩⟩ := HD.out.vis) | (refine (HCY.out _ HG.out).mono ?_; rintro e wq ⟨rfl, hg⟩; have HGn := hide (gb_trans HG.out hg (.inl rfl)); have HDn := hide (HD.out.gb hg); clear r0 r1 r2 x0 x1 x2 x3 y0 y1 y2 y3 z0 z1 z2 z3 v0 v1 v2 v3 f0 f1 f2 f3 h0 h1 h2 h3 HG HD; have HG := hide HGn.out; have HD := hide HDn.out; clear HGn HDn hg; obtain ⟨⟨r0, r1, r2⟩, ⟨x0, x1, x2, x3⟩, ⟨y0, y1, y2, y3⟩, ⟨z0, z1, z2, z3⟩, ⟨v0, v1, v2, v3⟩, ⟨f0, f1, f2, f3⟩, ⟨h0, h1, h2, h3⟩⟩ := HD.out.vis))
          | (go_at_call 118; refine (HE.out _ HG.out).mono ?_; rintro e wq ⟨hg, A, c, rfl, ho⟩; have HO := hide (own_low ho HG.out.size); have HOB : Hid (∀ b, (Value.slice A l.length c).ownBlock = some b → w.heap.size + 4 < b) := hide (fun b e => Nat.lt_of_lt_of_le (blk_lt HD.out.v) (ho.lt b e).1); clear ho; have HGn := hide (gb_trans HG.out hg (.inl rfl)); have HDn := hide (HD.out.gb hg); clear r0 r1 r2 x0 x1 x2 x3 y0 y1 y2 y3 z0 z1 z2 z3 v0 v1 v2 v3 f0 f1 f2 f3 h0 h1 h2 h3 HG HD; have HG := hide HGn.out; have HD := hide HDn.out; clear HGn HDn hg; obtain ⟨⟨r0, r1, r2⟩, ⟨x0, x1, x2, x3⟩, ⟨y0, y1, y2, y3⟩, ⟨z0, z1, z2, z3⟩, ⟨v0, v1, v2, v3⟩, ⟨f0, f1, f2, f3⟩, ⟨h0, h1, h2, h3⟩⟩ := HD.out.vis)
          | (go_at_call 119; refine (like_any _ _ _ _ _ _ ⟨by decide, by decide⟩ ⟨A, l.length, c, rfl⟩ _).mono ?_; rintro e wr ⟨rfl, hg⟩; have HON := hide (HO.out.kept hg (by cases (Value.slice A l.length c).ownBlock <;> simp)); clear HO; have HGn := hide (gb_trans HG.out hg (.inl rfl)); have HDn := hide (HD.out.gb hg); clear r0 r1 r2 x0 x1 x2 x3 y0 y1 y2 y3 z0 z1 z2 z3 v0 v1 v2 v3 f0 f1 f2 f3 h0 h1 h2 h3 HG HD; have HG := hide HGn.out; have HD := hide HDn.out; clear HGn HDn hg; obtain ⟨⟨r0, r1, r2⟩, ⟨x0, x1, x2, x3⟩, ⟨y0, y1, y2, y3⟩, ⟨z0, z1, z2, z3⟩, ⟨v0, v1, v2, v3⟩, ⟨f0, f1, f2, f3⟩, ⟨h0, h1, h2, h3⟩⟩ := HD.out.vis))
        have hb := put_four HD.out.z (.int .i64 (likeT y.t 2)) (.slice A l.length c) (.slice none 0 0) (.slice none 0 0)
        have m0 : ((((wr.setCell ⟨w.heap.size + 1 + 1 + 1, 0, none⟩ (.int .i64 (likeT y.t 2))).setCell ⟨w.heap.size + 1 + 1 + 1, 1, none⟩ (.slice A l.length c)).setCell ⟨w.heap.size + 1 + 1 + 1, 2, none⟩ (.slice none 0 0)).setCell ⟨w.heap.size + 1 + 1 + 1, 3, none⟩ (.slice none 0 0)).cell? ⟨w.heap.size + 1 + 1 + 1, 0, none⟩ = some (.int .i64 (likeT y.t 2)) := (blk_cell hb 0).trans rfl
        have m1 : ((((wr.setCell ⟨w.heap.size + 1 + 1 + 1, 0, none⟩ (.int .i64 (likeT y.t 2))).setCell ⟨w.heap.size + 1 + 1 + 1, 1, none⟩ (.slice A l.length c)).setCell ⟨w.heap.size + 1 + 1 + 1, 2, none⟩ (.slice none 0 0)).setCell ⟨w.heap.size + 1 + 1 + 1, 3, none⟩ (.slice none 0 0)).cell? ⟨w.heap.size + 1 + 1 + 1, 1, none⟩ = some (.slice A l.length c) := (blk_cell hb 1).trans rfl
        have m2 : ((((wr.setCell ⟨w.heap.size + 1 + 1 + 1, 0, none⟩ (.int .i64 (likeT y.t 2))).setCell ⟨w.heap.size + 1 + 1 + 1, 1, none⟩ (.slice A l.length c)).setCell ⟨w.heap.size + 1 + 1 + 1, 2, none⟩ (.slice none 0 0)).setCell ⟨w.heap.size + 1 + 1 + 1, 3, none⟩ (.slice none 0 0)).cell? ⟨w.heap.size + 1 + 1 + 1, 2, none⟩ = some (.slice none 0 0) := (blk_cell hb 2).trans rfl
        have m3 : ((((wr.setCell ⟨w.heap.size + 1 + 1 + 1, 0, none⟩ (.int .i64 (likeT y.t 2))).setCell ⟨w.heap.size + 1 + 1 + 1, 1, none⟩ (.slice A l.length c)).setCell ⟨w.heap.size + 1 + 1 + 1, 2, none⟩ (.slice none 0 0)).setCell ⟨w.heap.size + 1 + 1 + 1, 3, none⟩ (.slice none 0 0)).cell? ⟨w.heap.size + 1 + 1 + 1, 3, none⟩ = some (.slice none 0 0) := (blk_cell hb 3).trans rfl
        have hon := HON.out.kept (put_four_row wr (w.heap.size + 3) (.int .i64 (likeT y.t 2)) (.slice A l.length c) (.slice none 0 0) (.slice none 0 0)) (.inr (fun e => by have := HOB.out _ e; omega))
        obtain ⟨_, _, e9, hc9, _⟩ := own_form hon
        injection e9 with _ _ e9
        exact bodyPost_ret (v := .tuple #[.agg #[.int .i64 (likeT y.t 2), .slice A l.length c, .slice none 0 0, .slice none 0 0], .int .i64 0]) (by simp [results, Tryz.results72, go_sem, m0, m1, m2, m3]) rfl ⟨put_four_gb HG.out (Nat.le_add_right _ 3) _ _ _ _, by rw [HDI.out]; exact ⟨A, c, e9 ▸ hc9, by rw [HLK.out], hon⟩⟩
    · have ay : atomT y.t = true := by rw [hyt]; rfl
      have HLK := hide (show likeT y.t 2 = y.t by unfold likeT; rw [ay, hyt]; rfl)
      clear hxt hyt hx1 hy1
      cases hE : eachO f x.n y.n 0 y.n.length with
      | none =>
        rw [hE] at HDI HEC
        have HE := hide (fun w2 (hg : w.grownBy w2 none) => HEC.out w2 hg)
        clear HEC HEA hE
        go_enter Tryz.func72, Tryz.ntmps72
        go_wp2_with fail
        rw [← HW.out]
        go_wp2_with (first
          | (go_at_call 116; refine (isAtom_any _ _ _ _ _).mono ?_; rintro e wp ⟨rfl, hg⟩; have HGn := hide (gb_trans HG.out hg (.inl rfl)); have HDn := hide (HD.out.gb hg); clear r0 r1 r2 x0 x1 x2 x3 y0 y1 y2 y3 z0 z1 z2 z3 v0 v1 v2 v3 f0 f1 f2 f3 h0 h1 h2 h3 HG HD; have HG := hide HGn.out; have HD := hide HDn.out; clear HGn HDn hg; obtain ⟨⟨r0, r1, r2⟩, ⟨x0, x1, x2, x3⟩, ⟨y0, y1, y2, y3⟩, ⟨z0, z1, z2, z3⟩, ⟨v0, v1, v2, v3⟩, ⟨f0, f1, f2, f3⟩, ⟨h0, h1, h2, h3⟩⟩ := HD.out.vis)
          | (go_at_call 35; first | (have _m := MC; clear MC _m; refine (HCY.out _ (put_four_gb HG.out (Nat.le_add_right _ 4) (.int .i64 y.t) (.slice mA y.n.length mc) (.slice tA y.s.length tc) (.slice kA y.l.length kc))).mono ?_; rintro e wq ⟨rfl, hg⟩; have HGn := hide (gb_trans (put_four_gb HG.out (Nat.le_add_right _ 4) (.int .i64 y.t) (.slice mA y.n.length mc) (.slice tA y.s.length tc) (.slice kA y.l.length kc)) hg (.inl rfl)); have HDn := hide ((HD.out.wide (.int .i64 y.t) (.slice mA y.n.length mc) (.slice tA y.s.length tc) (.slice kA y.l.length kc)).gb hg); clear r0 r1 r2 x0 x1 x2 x3 y0 y1 y2 y3 z0 z1 z2 z3 v0 v1 v2 v3 f0 f1 f2 f3 h0 h1 h2 h3 HG HD; have HG := hide HGn.out; have HD := hide HDn.out; clear HGn HDn hg; obtain ⟨⟨r0, r1, r2⟩, ⟨x0, x1, x2, x3⟩, ⟨y0, y1, y2, y3⟩, ⟨z0, z1, z2, z3⟩, ⟨v0, v1, v2, v3⟩, ⟨f0, f1, f2, f3⟩, ⟨h0, h1, h2, h3⟩⟩ := HD.out.vis) | (refine (HCY.out _ HG.out).mono ?_; rintro e wq ⟨rfl, hg⟩; have HGn := hide (gb_trans HG.out hg (.inl rfl)); have HDn := hide (HD.out.gb hg); clear r0 r1 r2 x0 x1 x2 x3 y0 y1 y2 y3 z0 z1 z2 z3 v0 v1 v2 v3 f0 f1 f2 f3 h0 h1 h2 h3 HG HD; have HG := hide HGn.out; have HD := hide HDn.out; clear HGn HDn hg; obtain ⟨⟨r0, r1, r2⟩, ⟨x0, x1, x2, x3⟩, ⟨y0, y1, y2, y3⟩, ⟨z0, z1, z2, z3⟩, ⟨v0, v1, v2, v3⟩, ⟨f0, f1, f2, f3⟩, ⟨h0, h1, h2, h3⟩⟩ := HD.out.vis))
          | (go_at_call 118; refine (HE.out _ HG.out).mono ?_; rintro e wq ⟨hg, rfl⟩; have HGn := hide (gb_trans HG.out hg (.inl rfl)); have HDn := hide (HD.out.gb hg); clear r0 r1 r2 x0 x1 x2 x3 y0 y1 y2 y3 z0 z1 z2 z3 v0 v1 v2 v3 f0 f1 f2 f3 h0 h1 h2 h3 HG HD; have HG := hide HGn.out; have HD := hide HDn.out; clear HGn HDn hg; obtain ⟨⟨r0, r1, r2⟩, ⟨x0, x1, x2, x3⟩, ⟨y0, y1, y2, y3⟩, ⟨z0, z1, z2, z3⟩, ⟨v0, v1, v2, v3⟩, ⟨f0, f1, f2, f3⟩, ⟨h0, h1, h2, h3⟩⟩ := HD.out.vis))
        have hb := put_four HD.out.z (.int .i64 0) (.slice none 0 0) (.slice none 0 0) (.slice none 0 0)
        have m0 : ((((wq.setCell ⟨w.heap.size + 1 + 1 + 1, 0, none⟩ (.int .i64 0)).setCell ⟨w.heap.size + 1 + 1 + 1, 1, none⟩ (.slice none 0 0)).setCell ⟨w.heap.size + 1 + 1 + 1, 2, none⟩ (.slice none 0 0)).setCell ⟨w.heap.size + 1 + 1 + 1, 3, none⟩ (.slice none 0 0)).cell? ⟨w.heap.size + 1 + 1 + 1, 0, none⟩ = some (.int .i64 0) := (blk_cell hb 0).trans rfl
        have m1 : ((((wq.setCell ⟨w.heap.size + 1 + 1 + 1, 0, none⟩ (.int .i64 0)).setCell ⟨w.heap.size + 1 + 1 + 1, 1, none⟩ (.slice none 0 0)).setCell ⟨w.heap.size + 1 + 1 + 1, 2, none⟩ (.slice none 0 0)).setCell ⟨w.heap.size + 1 + 1 + 1, 3, none⟩ (.slice none 0 0)).cell? ⟨w.heap.size + 1 + 1 + 1, 1, none⟩ = some (.slice none 0 0) := (blk_cell hb 1).trans rfl
        have m2 : ((((wq.setCell ⟨w.heap.size + 1 + 1 + 1, 0, none⟩ (.int .i64 0)).setCell ⟨w.heap.size + 1 + 1 + 1, 1, none⟩ (.slice none 0 0)).setCell ⟨w.heap.size + 1 + 1 + 1, 2, none⟩ (.slice none 0 0)).setCell ⟨w.heap.size + 1 + 1 + 1, 3, none⟩ (.slice none 0 0)).cell? ⟨w.heap.size + 1 + 1 + 1, 2, none⟩ = some (.slice none 0 0) := (blk_cell hb 2).trans rfl
        have m3 : ((((wq.setCell ⟨w.heap.size + 1 + 1 + 1, 0, none⟩ (.int .i64 0)).setCell ⟨w.heap.size + 1 + 1 + 1, 1, none⟩ (.slice none 0 0)).setCell ⟨w.heap.size + 1 + 1 + 1, 2, none⟩ (.slice none 0 0)).setCell ⟨w.heap.size + 1 + 1 + 1, 3, none⟩ (.slice none 0 0)).cell? ⟨w.heap.size + 1 + 1 + 1, 3, none⟩ = some (.slice none 0 0) := (blk_cell hb 3).trans rfl
        exact bodyPost_ret (v := .tuple #[.agg #[.int .i64 0, .slice none 0 0, .slice none 0 0, .slice none 0 0], .int .i64 70]) (by simp [results, Tryz.results72, go_sem, m0, m1, m2, m3]) rfl ⟨put_four_gb HG.out (Nat.le_add_right _ 3) _ _ _ _, by rw [HDI.out]⟩
      | some l =>
        rw [hE] at HDI HEC
        have HE := hide (fun w2 (hg : w.grownBy w2 none) => HEC.out w2 hg)
        clear HEC HEA hE
        go_enter Tryz.func72, Tryz.ntmps72
        go_wp2_with fail
        rw [← HW.out]
        go_wp2_with (first
          | (go_at_call 116; refine (isAtom_any _ _ _ _ _).mono ?_; rintro e wp ⟨rfl, hg⟩; have HGn := hide (gb_trans HG.out hg (.inl rfl)); have HDn := hide (HD.out.gb hg); clear r0 r1 r2 x0 x1 x2 x3 y0 y1 y2 y3 z0 z1 z2 z3 v0 v1 v2 v3 f0 f1 f2 f3 h0 h1 h2 h3 HG HD; have HG := hide HGn.out; have HD := hide HDn.out; clear HGn HDn hg; obtain ⟨⟨r0, r1, r2⟩, ⟨x0, x1, x2, x3⟩, ⟨y0, y1, y2, y3⟩, ⟨z0, z1, z2, z3⟩, ⟨v0, v1, v2, v3⟩, ⟨f0, f1, f2, f3⟩, ⟨h0, h1, h2, h3⟩⟩ := HD.out.vis)
          | (go_at_call 35; first | (have _m := MC; clear MC _m; refine (HCY.out _ (put_four_gb HG.out (Nat.le_add_right _ 4) (.int .i64 y.t) (.slice mA y.n.length mc) (.slice tA y.s.length tc) (.slice kA y.l.length kc))).mono ?_; rintro e wq ⟨rfl, hg⟩; have HGn := hide (gb_trans (put_four_gb HG.out (Nat.le_add_right _ 4) (.int .i64 y.t) (.slice mA y.n.length mc) (.slice tA y.s.length tc) (.slice kA y.l.length kc)) hg (.inl rfl)); have HDn := hide ((HD.out.wide (.int .i64 y.t) (.slice mA y.n.length mc) (.slice tA y.s.length tc) (.slice kA y.l.length kc)).gb hg); clear r0 r1 r2 x0 x1 x2 x3 y0 y1 y2 y3 z0 z1 z2 z3 v0 v1 v2 v3 f0 f1 f2 f3 h0 h1 h2 h3 HG HD; have HG := hide HGn.out; have HD := hide HDn.out; clear HGn HDn hg; obtain ⟨⟨r0, r1, r2⟩, ⟨x0, x1, x2, x3⟩, ⟨y0, y1, y2, y3⟩, ⟨z0, z1, z2, z3⟩, ⟨v0, v1, v2, v3⟩, ⟨f0, f1, f2, f3⟩, ⟨h0, h1, h2, h3⟩⟩ := HD.out.vis) | (refine (HCY.out _ HG.out).mono ?_; rintro e wq ⟨rfl, hg⟩; have HGn := hide (gb_trans HG.out hg (.inl rfl)); have HDn := hide (HD.out.gb hg); clear r0 r1 r2 x0 x1 x2 x3 y0 y1 y2 y3 z0 z1 z2 z3 v0 v1 v2 v3 f0 f1 f2 f3 h0 h1 h2 h3 HG HD; have HG := hide HGn.out; have HD := hide HDn.out; clear HGn HDn hg; obtain ⟨⟨r0, r1, r2⟩, ⟨x0, x1, x2, x3⟩, ⟨y0, y1, y2, y3⟩, ⟨z0, z1, z2, z3⟩, ⟨v0, v1, v2, v3⟩, ⟨f0, f1, f2, f3⟩, ⟨h0, h1, h2, h3⟩⟩ := HD.out.vis))
          | (go_at_call 118; refine (HE.out _ HG.out).mono ?_; rintro e wq ⟨hg, A, c, rfl, ho⟩; have HO := hide (own_low ho HG.out.size); have HOB : Hid (∀ b, (Value.slice A l.length c).ownBlock = some b → w.heap.size + 4 < b) := hide (fun b e => Nat.lt_of_lt_of_le (blk_lt HD.out.v) (ho.lt b e).1); clear ho; have HGn := hide (gb_trans HG.out hg (.inl rfl)); have HDn := hide (HD.out.gb hg); clear r0 r1 r2 x0 x1 x2 x3 y0 y1 y2 y3 z0 z1 z2 z3 v0 v1 v2 v3 f0 f1 f2 f3 h0 h1 h2 h3 HG HD; have HG := hide HGn.out; have HD := hide HDn.out; clear HGn HDn hg; obtain ⟨⟨r0, r1, r2⟩, ⟨x0, x1, x2, x3⟩, ⟨y0, y1, y2, y3⟩, ⟨z0, z1, z2, z3⟩, ⟨v0, v1, v2, v3⟩, ⟨f0, f1, f2, f3⟩, ⟨h0, h1, h2, h3⟩⟩ := HD.out.vis)
          | (go_at_call 119; refine (like_any _ _ _ _ _ _ ⟨by decide, by decide⟩ ⟨A, l.length, c, rfl⟩ _).mono ?_; rintro e wr ⟨rfl, hg⟩; have HON := hide (HO.out.kept hg (by cases (Value.slice A l.length c).ownBlock <;> simp)); clear HO; have HGn := hide (gb_trans HG.out hg (.inl rfl)); have HDn := hide (HD.out.gb hg); clear r0 r1 r2 x0 x1 x2 x3 y0 y1 y2 y3 z0 z1 z2 z3 v0 v1 v2 v3 f0 f1 f2 f3 h0 h1 h2 h3 HG HD; have HG := hide HGn.out; have HD := hide HDn.out; clear HGn HDn hg; obtain ⟨⟨r0, r1, r2⟩, ⟨x0, x1, x2, x3⟩, ⟨y0, y1, y2, y3⟩, ⟨z0, z1, z2, z3⟩, ⟨v0, v1, v2, v3⟩, ⟨f0, f1, f2, f3⟩, ⟨h0, h1, h2, h3⟩⟩ := HD.out.vis))
        have hb := put_four HD.out.z (.int .i64 (likeT y.t 2)) (.slice A l.length c) (.slice none 0 0) (.slice none 0 0)
        have m0 : ((((wr.setCell ⟨w.heap.size + 1 + 1 + 1, 0, none⟩ (.int .i64 (likeT y.t 2))).setCell ⟨w.heap.size + 1 + 1 + 1, 1, none⟩ (.slice A l.length c)).setCell ⟨w.heap.size + 1 + 1 + 1, 2, none⟩ (.slice none 0 0)).setCell ⟨w.heap.size + 1 + 1 + 1, 3, none⟩ (.slice none 0 0)).cell? ⟨w.heap.size + 1 + 1 + 1, 0, none⟩ = some (.int .i64 (likeT y.t 2)) := (blk_cell hb 0).trans rfl
        have m1 : ((((wr.setCell ⟨w.heap.size + 1 + 1 + 1, 0, none⟩ (.int .i64 (likeT y.t 2))).setCell ⟨w.heap.size + 1 + 1 + 1, 1, none⟩ (.slice A l.length c)).setCell ⟨w.heap.size + 1 + 1 + 1, 2, none⟩ (.slice none 0 0)).setCell ⟨w.heap.size + 1 + 1 + 1, 3, none⟩ (.slice none 0 0)).cell? ⟨w.heap.size + 1 + 1 + 1, 1, none⟩ = some (.slice A l.length c) := (blk_cell hb 1).trans rfl
        have m2 : ((((wr.setCell ⟨w.heap.size + 1 + 1 + 1, 0, none⟩ (.int .i64 (likeT y.t 2))).setCell ⟨w.heap.size + 1 + 1 + 1, 1, none⟩ (.slice A l.length c)).setCell ⟨w.heap.size + 1 + 1 + 1, 2, none⟩ (.slice none 0 0)).setCell ⟨w.heap.size + 1 + 1 + 1, 3, none⟩ (.slice none 0 0)).cell? ⟨w.heap.size + 1 + 1 + 1, 2, none⟩ = some (.slice none 0 0) := (blk_cell hb 2).trans rfl
        have m3 : ((((wr.setCell ⟨w.heap.size + 1 + 1 + 1, 0, none⟩ (.int .i64 (likeT y.t 2))).setCell ⟨w.heap.size + 1 + 1 + 1, 1, none⟩ (.slice A l.length c)).setCell ⟨w.heap.size + 1 + 1 + 1, 2, none⟩ (.slice none 0 0)).setCell ⟨w.heap.size + 1 + 1 + 1, 3, none⟩ (.slice none 0 0)).cell? ⟨w.heap.size + 1 + 1 + 1, 3, none⟩ = some (.slice none 0 0) := (blk_cell hb 3).trans rfl
        have hon := HON.out.kept (put_four_row wr (w.heap.size + 3) (.int .i64 (likeT y.t 2)) (.slice A l.length c) (.slice none 0 0) (.slice none 0 0)) (.inr (fun e => by have := HOB.out _ e; omega))
        obtain ⟨_, _, e9, hc9, _⟩ := own_form hon
        injection e9 with _ _ e9
        exact bodyPost_ret (v := .tuple #[.agg #[.int .i64 (likeT y.t 2), .slice A l.length c, .slice none 0 0, .slice none 0 0], .int .i64 0]) (by simp [results, Tryz.results72, go_sem, m0, m1, m2, m3]) rfl ⟨put_four_gb HG.out (Nat.le_add_right _ 3) _ _ _ _, by rw [HDI.out]; exact ⟨A, c, e9 ▸ hc9, by rw [HLK.out], hon⟩⟩
end Go.Proofs.YtgepejnooghjbaaGreat
