/-
  vec.row and vec.picked of ints.
-/
import Derived.Test.YtnilcnobngcbgaaGreatDg
namespace Go.Proofs.YtnilcnobngcbgaaGreat
open Go.RowKit
attribute [local go_sem ↓] Go.wp_at_zero Go.wp_at_succ

/-- The numbers from a on, m of them. -/
def rowI (a : Int) : Nat → List Int
  | 0 => []
  | m + 1 => rowI a m ++ [a + (m : Int)]
theorem rowI_length (a : Int) (m : Nat) : (rowI a m).length = m := by
  induction m with
  | zero => rfl
  | succ m ih => simp [rowI, ih]
/-- What a function gives that makes a row of ints of its own. -/
def IntsR (l : List Int) (w : World) (e : Ending) (w' : World) : Prop := w.grownBy w' none ∧ ∃ A c, l.length ≤ c ∧ e = .returned (.slice A l.length c) ∧ w'.ownsRow w.heap.size 2 1 (.slice A l.length c) l.length (i64s l)

set_option maxHeartbeats 4000000 in
set_option maxRecDepth 100000 in
theorem rowG_any (a b : Int) (m : Nat) (hm : b - a = (m : Int)) (h1 : m ≤ 1100000) (ha : -1000000000 ≤ a ∧ a ≤ 1000000000) (w : World) :
    Calls Tryz.prog 29 #[.int .i64 a, .int .i64 b] w fun e w' => e = .returned (.slice (some ⟨w.heap.size, 0, none⟩) m m) ∧ w.grownBy w' none ∧ w'.ownsRow w.heap.size 2 1 (.slice (some ⟨w.heap.size, 0, none⟩) m m) m (i64s (rowI a m)) := by
  obtain ⟨i1, hi1, hiz, his, hib⟩ := info_parts Tryz.info64
  obtain ⟨w0, hmk, hown, hg0⟩ := run_make_full (P := Tryz.prog) w w.heap.size 22 2 i1 (.int .i64 0) 1 Tryz.underlying22 hi1 hiz his .i64 .i64 m (by rw [hib]; omega) (by unfold maxLen; omega) (Nat.le_refl _)
  rw [show (madeCells (Value.int .i64 0).cells (m * 1)).toList = List.replicate m (.int .i64 0) by rw [Nat.mul_one]; exact toList_madeCells_one _ m] at hown
  have hsub : IntKind.i64.wrap (b - a) = (m : Int) := by rw [hm, IntKind.wrap_i64]; omega
  have HOWN := hide hown
  have HG0 := hide hg0
  have HCL := hide h1
  have HA := hide ha
  clear hown hg0 h1 ha hm hi1 hiz his hib
  go_enter Tryz.func29, Tryz.ntmps29
  go_wp2_with fail
  go_loopw [13] (fun i wr => ∃ j : Nat, i = .int .i64 (j : Int) ∧ j ≤ m ∧
    wr.ownsRow w.heap.size 2 1 (.slice (some ⟨w.heap.size, 0, none⟩) m m) m (i64s (rowI a j) ++ List.replicate (m - j) (.int .i64 0)) ∧ w.grownBy wr none) (fun i _ => m - (intOf i).toNat)
  case atStart => exact ⟨0, rfl, Nat.zero_le _, by simpa [i64s, rowI] using HOWN.out, HG0.out⟩
  case round =>
    obtain ⟨j, rfl, hj, how, hgr⟩ := hrel
    by_cases hlt : j < m
    · have hlt1 : (j : Int) < (m : Int) := by omega
      have h6 : IntKind.i64.wrap ((j : Int) + 1) = ((j + 1 : Nat) : Int) := by rw [IntKind.wrap_i64]; have := HCL.out; omega
      have h7 : IntKind.i64.wrap (a + (j : Int)) = a + (j : Int) := by rw [IntKind.wrap_i64]; have := HCL.out; have := HA.out; omega
      have HO5 := hide how
      have HGR := hide hgr
      have HLT := hide hlt
      have c5 := how.cellAt j (by omega)
      rw [List.getElem?_append_right (by simp [i64s, rowI_length]), show (i64s (rowI a j)).length = j by simp [i64s, rowI_length], Nat.sub_self, List.getElem?_replicate, if_pos (by omega)] at c5
      have z5 := how.frozenAt j
      clear how hgr hlt hj
      go_wp2_with fail
      go_roundw
      case rel =>
        have hlt := HLT.out
        refine ⟨j + 1, by go_num, by omega, ?_, gb_setCell HGR.out (.inr (Nat.le_refl _)) _⟩
        have h1 := (HO5.out.stored j (.int .i64 (a + (j : Int)))).1
        obtain ⟨k, hk⟩ : ∃ k, m - j = k + 1 := ⟨m - j - 1, by omega⟩
        rw [hk] at h1
        have h2 := i64s_set_mid (rowI a j) (a + (j : Int)) k
        rw [rowI_length] at h2
        rw [h2] at h1
        rw [show m - (j + 1) = k by omega]
        exact h1
      case measure =>
        have hlt := HLT.out
        simp [intOf]
        omega
    · have hlt1 : ¬ (j : Int) < (m : Int) := by omega
      obtain rfl : j = m := by omega
      have HO := hide (show wr.ownsRow w.heap.size 2 1 (.slice (some ⟨w.heap.size, 0, none⟩) j j) j (i64s (rowI a j)) by simpa using how)
      have HGR := hide hgr
      clear hgr how
      go_wp2_with fail
      exact bodyPost_ret (v := .slice (some ⟨w.heap.size, 0, none⟩) j j) (by simp [results, Tryz.results29, go_sem]) rfl ⟨rfl, HGR.out, HO.out⟩
theorem row_any (a b : Int) (m : Nat) (hm : b - a = (m : Int)) (h1 : m ≤ 1100000) (ha : -1000000000 ≤ a ∧ a ≤ 1000000000) (w : World) :
    Calls Tryz.prog 29 #[.int .i64 a, .int .i64 b] w (IntsR (rowI a m) w) :=
  (rowG_any a b m hm h1 ha w).mono fun _ _ ⟨h1, h2, h3⟩ => ⟨h2, _, m, by rw [rowI_length]; exact Nat.le_refl _, by rw [rowI_length]; exact h1, by rw [rowI_length]; exact h3⟩
/-- What a list has at a place, and d where it has nothing. -/
def pickI (l : List Int) (d p : Int) : Int := if 0 ≤ p ∧ p < (l.length : Int) then l.getD p.toNat 0 else d
set_option maxHeartbeats 8000000 in
set_option maxRecDepth 100000 in
theorem picked_any (l ps : List Int) (d : Int) (w : World) (lA : Option Addr) (lc : Nat) (pA : Option Addr) (pc : Nat) (hl : Rd w w.heap.size lA (i64s l)) (hp : Rd w w.heap.size pA (i64s ps)) (h1 : ps.length ≤ 1100000) (h2 : l.length ≤ 1100000) :
    Calls Tryz.prog 40 #[.slice lA l.length lc, .int .i64 d, .slice pA ps.length pc] w (IntsR (ps.map (pickI l d)) w) := by
  obtain ⟨i1, hi1, hiz, his, hib⟩ := info_parts Tryz.info64
  obtain ⟨w0, hmk, hown, hg0⟩ := run_make_full (P := Tryz.prog) w w.heap.size 22 2 i1 (.int .i64 0) 1 Tryz.underlying22 hi1 hiz his .i64 .i64 ps.length (by rw [hib]; omega) (by unfold maxLen; omega) (Nat.le_refl _)
  rw [show (madeCells (Value.int .i64 0).cells (ps.length * 1)).toList = List.replicate ps.length (.int .i64 0) by rw [Nat.mul_one]; exact toList_madeCells_one _ ps.length] at hown
  have HOWN := hide hown
  have HG0 := hide hg0
  have HCL := hide h1
  have HLL := hide h2
  have HL := hide hl
  have HP := hide hp
  clear hown hg0 h1 h2 hl hp hi1 hiz his hib
  go_enter Tryz.func40, Tryz.ntmps40
  go_wp2_with fail
  go_loopw [15] (fun i wr => ∃ j : Nat, i = .int .i64 (j : Int) ∧ j ≤ ps.length ∧
    wr.ownsRow w.heap.size 2 1 (.slice (some ⟨w.heap.size, 0, none⟩) ps.length ps.length) ps.length (i64s ((ps.take j).map (pickI l d)) ++ List.replicate (ps.length - j) (.int .i64 0)) ∧ w.grownBy wr none) (fun i _ => ps.length - (intOf i).toNat)
  case atStart => exact ⟨0, rfl, Nat.zero_le _, by simpa [i64s] using HOWN.out, HG0.out⟩
  case round =>
    obtain ⟨j, rfl, hj, how, hgr⟩ := hrel
    by_cases hlt : j < ps.length
    · have hlt1 : (j : Int) < (ps.length : Int) := by omega
      obtain ⟨pp, ep, hpp, hcp⟩ := HP.out.i64 hlt
      obtain ⟨p, hpe⟩ : ∃ p, p = ps[j] := ⟨_, rfl⟩
      rw [← hpe] at hcp
      have cp := cell_gb hcp hgr
      obtain ⟨xs, hxs⟩ : ∃ xs, xs = (ps.take j).map (pickI l d) := ⟨_, rfl⟩
      have htk : ps.take (j + 1) = ps.take j ++ [ps[j]] := by rw [List.take_add_one, List.getElem?_eq_getElem hlt]; rfl
      have HTK := hide (show (ps.take (j + 1)).map (pickI l d) = xs ++ [pickI l d p] by rw [htk, List.map_append, ← hxs, hpe]; rfl)
      have hxl : xs.length = j := by rw [hxs, List.length_map, List.length_take]; omega
      have HLN := hide hxl
      rw [← hxs] at how
      have h6 : IntKind.i64.wrap ((j : Int) + 1) = ((j + 1 : Nat) : Int) := by rw [IntKind.wrap_i64]; have := HCL.out; omega
      have HO5 := hide how
      have HGR := hide hgr
      have HLT := hide hlt
      have c5 := how.cellAt j (by omega)
      rw [List.getElem?_append_right (by simp [i64s, hxl]), show (i64s xs).length = j by simp [i64s, hxl], Nat.sub_self, List.getElem?_replicate, if_pos (by omega)] at c5
      have z5 := how.frozenAt j
      have how2 := (how.stored j (.int .i64 d)).1
      have HO6 := hide how2
      have HG6 := hide (gb_setCell hgr (.inr (Nat.le_refl w.heap.size)) (.int .i64 d) : w.grownBy (wr.setCell ⟨w.heap.size, j, none⟩ (.int .i64 d)) none)
      have HST := hide (i64s_set_mid xs)
      subst ep
      clear hcp hpp how how2 hgr hlt hj hpe hxs htk hxl
      by_cases q0 : 0 ≤ p
      · by_cases q1 : p < (l.length : Int)
        · have HPI := hide (show pickI l d p = l.getD p.toNat 0 by unfold pickI; rw [if_pos ⟨q0, q1⟩])
          obtain ⟨q, rfl⟩ : ∃ q : Nat, p = (q : Int) := ⟨p.toNat, by omega⟩
          have hq : q < l.length := by omega
          obtain ⟨pl, el, hpl, hcl⟩ := HL.out.i64 hq
          obtain ⟨x, hx⟩ : ∃ x, x = l.getD q 0 := ⟨_, rfl⟩
          have hxe : l[q] = x := by rw [hx, List.getD_eq_getElem?_getD, List.getElem?_eq_getElem hq]; rfl
          rw [hxe] at hcl
          have cl := cell_gb hcl HG6.out
          have c6 := HO6.out.cellAt j (by have := HLT.out; omega)
          have hc6 : (wr.setCell ⟨w.heap.size, j, none⟩ (.int .i64 d)).cell? ⟨w.heap.size, j, none⟩ = some (.int .i64 d) := by rw [c6, List.getElem?_set_self (by simp [i64s]; have := HLT.out; have := HLN.out; omega)]
          clear c6
          have z6 := HO6.out.frozenAt j
          have HPX := hide (show pickI l d (q : Int) = x by rw [HPI.out, hx]; rfl)
          subst el
          clear hcl hpl hx hxe HPI hq
          go_wp2_with fail
          go_roundw
          case rel =>
            have hlt := HLT.out
            refine ⟨j + 1, by go_num, by omega, ?_, gb_setCell HG6.out (.inr (Nat.le_refl _)) _⟩
            rw [HTK.out, HPX.out]
            have h1 := (HO6.out.stored j (.int .i64 x)).1
            obtain ⟨k, hk⟩ : ∃ k, ps.length - j = k + 1 := ⟨ps.length - j - 1, by omega⟩
            rw [hk, List.set_set] at h1
            have h2 := HST.out x k
            rw [HLN.out] at h2
            rw [h2] at h1
            rw [show ps.length - (j + 1) = k by omega]
            exact h1
          case measure =>
            have hlt := HLT.out
            simp [intOf]
            omega
        · have HPX := hide (show pickI l d p = d by unfold pickI; rw [if_neg (fun h => q1 h.2)])
          go_wp2_with fail
          go_roundw
          case rel =>
            have hlt := HLT.out
            refine ⟨j + 1, by go_num, by omega, ?_, HG6.out⟩
            rw [HTK.out, HPX.out]
            have h1 := HO6.out
            obtain ⟨k, hk⟩ : ∃ k, ps.length - j = k + 1 := ⟨ps.length - j - 1, by omega⟩
            rw [hk] at h1
            have h2 := HST.out d k
            rw [HLN.out] at h2
            rw [h2] at h1
            rw [show ps.length - (j + 1) = k by omega]
            exact h1
          case measure =>
            have hlt := HLT.out
            simp [intOf]
            omega
      · have HPX := hide (show pickI l d p = d by unfold pickI; rw [if_neg (fun h => q0 h.1)])
        go_wp2_with fail
        go_roundw
        case rel =>
          have hlt := HLT.out
          refine ⟨j + 1, by go_num, by omega, ?_, HG6.out⟩
          rw [HTK.out, HPX.out]
          have h1 := HO6.out
          obtain ⟨k, hk⟩ : ∃ k, ps.length - j = k + 1 := ⟨ps.length - j - 1, by omega⟩
          rw [hk] at h1
          have h2 := HST.out d k
          rw [HLN.out] at h2
          rw [h2] at h1
          rw [show ps.length - (j + 1) = k by omega]
          exact h1
        case measure =>
          have hlt := HLT.out
          simp [intOf]
          omega
    · have hlt1 : ¬ (j : Int) < (ps.length : Int) := by omega
      obtain rfl : j = ps.length := by omega
      have HO := hide (show wr.ownsRow w.heap.size 2 1 (.slice (some ⟨w.heap.size, 0, none⟩) ps.length ps.length) ps.length (i64s (ps.map (pickI l d))) by simpa using how)
      have HGR := hide hgr
      clear hgr how
      go_wp2_with fail
      exact bodyPost_ret (v := .slice (some ⟨w.heap.size, 0, none⟩) ps.length ps.length) (by simp [results, Tryz.results40, go_sem]) rfl ⟨HGR.out, _, ps.length, by rw [List.length_map]; exact Nat.le_refl _, by rw [List.length_map], by rw [List.length_map]; exact HO.out⟩
end Go.Proofs.YtnilcnobngcbgaaGreat
