/-
  vec.Take of a vector of ints.
-/
import Derived.Test.YtbmgodmfpoappaaGreatQKg
import Derived.Test.YtbmgodmfpoappaaGreatQKd
import Derived.Test.YtbmgodmfpoappaaGreatQKh
namespace Go.Proofs.YtbmgodmfpoappaaGreat
open Go.RowKit
attribute [local go_sem ↓] Go.wp_at_zero Go.wp_at_succ
def rowI (a : Int) : Nat → List Int
 | 0 => []
 | m + 1 => rowI a m ++ [a + (m : Int)]
theorem rowI_length (a : Int) (m : Nat) : (rowI a m).length = m := by
 induction m with
 | zero => rfl
 | succ m ih => simp [rowI, ih]
def IntsR (l : List Int) (w : World) (e : Ending) (w' : World) : Prop := w.grownBy w' none ∧ ∃ A c, l.length ≤ c ∧ e = .returned (.slice A l.length c) ∧ w'.ownsRow w.heap.size 2 1 (.slice A l.length c) l.length (i64s l)
set_option maxHeartbeats 4000000 in
set_option maxRecDepth 100000 in
theorem rowG_any (a b : Int) (m : Nat) (hm : b - a = (m : Int)) (h1 : m ≤ 1200000000) (ha : (-1000000000 ≤ a ∧ a ≤ 1000000000) ∨ m = 0) (w : World) :
  Calls Tryz.prog 37 #[.int .i64 a, .int .i64 b] w fun e w' => e = .returned (.slice (some ⟨w.heap.size, 0, none⟩) m m) ∧ w.grownBy w' none ∧ w'.ownsRow w.heap.size 2 1 (.slice (some ⟨w.heap.size, 0, none⟩) m m) m (i64s (rowI a m)) := by
 obtain ⟨i1, hi1, hiz, his, hib⟩ := info_parts Tryz.info64
 obtain ⟨w0, hmk, hown, hg0⟩ := run_make_full (P := Tryz.prog) w w.heap.size 22 2 i1 (.int .i64 0) 1 Tryz.underlying22 hi1 hiz his .i64 .i64 m (by rw [hib]; omega) (by unfold maxLen; omega) (Nat.le_refl _)
 rw [show (madeCells (Value.int .i64 0).cells (m * 1)).toList = List.replicate m (.int .i64 0) by rw [Nat.mul_one]; exact toList_madeCells_one _ m] at hown
 have hsub : IntKind.i64.wrap (b - a) = (m : Int) := by rw [hm, IntKind.wrap_i64]; omega
 have HOWN := hide hown
 have HG0 := hide hg0
 have HCL := hide h1
 have HA := hide ha
 clear hown hg0 h1 ha hm hi1 hiz his hib
 go_enter Tryz.func37, Tryz.ntmps37
 go_wp2_with fail
 go_loopw [13] (fun i wr => ∃ j : Nat, i = .int .i64 (j : Int) ∧ j ≤ m ∧
  wr.ownsRow w.heap.size 2 1 (.slice (some ⟨w.heap.size, 0, none⟩) m m) m (i64s (rowI a j) ++ List.replicate (m - j) (.int .i64 0)) ∧ w.grownBy wr none) (fun i _ => m - (intOf i).toNat)
 case atStart => exact ⟨0, rfl, Nat.zero_le _, by simpa [i64s, rowI] using HOWN.out, HG0.out⟩
 case round =>
  obtain ⟨j, rfl, hj, how, hgr⟩ := hrel
  by_cases hlt : j < m
  ·have hlt1 : (j : Int) < (m : Int) := by omega
   have h6 : IntKind.i64.wrap ((j : Int) + 1) = ((j + 1 : Nat) : Int) := by rw [IntKind.wrap_i64]; have := HCL.out; omega
   have h7 : IntKind.i64.wrap (a + (j : Int)) = a + (j : Int) := by rw [IntKind.wrap_i64]; have := HCL.out; have := HA.out; omega
   have HO5 := hide how
   have HGR := hide hgr
   have HLT := hide hlt
   have c5 := how.cellAt j (by omega)
   rw [List.getElem?_append_right (by simp [i64s, rowI_length]), show (i64s (rowI a j)).length = j by simp [i64s, rowI_length], Nat.sub_self, List.getElem?_replicate, if_pos (by omega)] at c5
   have z5 := how.frozenAt j
   clear how hgr hlt hj
   go_wp2_with fail
   go_roundw
   case rel =>
    have hlt := HLT.out
    refine ⟨j + 1, by go_num, by omega, ?_, gb_setCell HGR.out (.inr (Nat.le_refl _)) _⟩
    have h1 := (HO5.out.stored j (.int .i64 (a + (j : Int)))).1
    obtain ⟨k, hk⟩ : ∃ k, m - j = k + 1 := ⟨m - j - 1, by omega⟩
    rw [hk] at h1
    have h2 := i64s_set_mid (rowI a j) (a + (j : Int)) k
    rw [rowI_length] at h2
    rw [h2] at h1
    rw [show m - (j + 1) = k by omega]
    exact h1
   case measure =>
    have hlt := HLT.out
    simp [intOf]
    omega
  ·have hlt1 : ¬ (j : Int) < (m : Int) := by omega
   obtain rfl : j = m := by omega
   have HO := hide (show wr.ownsRow w.heap.size 2 1 (.slice (some ⟨w.heap.size, 0, none⟩) j j) j (i64s (rowI a j)) by simpa using how)
   have HGR := hide hgr
   clear hgr how
   go_wp2_with fail
   exact bodyPost_ret (v := .slice (some ⟨w.heap.size, 0, none⟩) j j) (by simp [results, Tryz.results37, go_sem]) rfl ⟨rfl, HGR.out, HO.out⟩
theorem row_any (a b : Int) (m : Nat) (hm : b - a = (m : Int)) (h1 : m ≤ 1200000000) (ha : (-1000000000 ≤ a ∧ a ≤ 1000000000) ∨ m = 0) (w : World) :
  Calls Tryz.prog 37 #[.int .i64 a, .int .i64 b] w (IntsR (rowI a m) w) :=
 (rowG_any a b m hm h1 ha w).mono fun _ _ ⟨h1, h2, h3⟩ => ⟨h2, _, m, by rw [rowI_length]; exact Nat.le_refl _, by rw [rowI_length]; exact h1, by rw [rowI_length]; exact h3⟩
def pickI (l : List Int) (d p : Int) : Int := if 0 ≤ p ∧ p < (l.length : Int) then l.getD p.toNat 0 else d
set_option maxHeartbeats 8000000 in
set_option maxRecDepth 100000 in
theorem picked_any (l ps : List Int) (d : Int) (w : World) (lA : Option Addr) (lc : Nat) (pA : Option Addr) (pc : Nat) (hl : Rd w w.heap.size lA (i64s l)) (hp : Rd w w.heap.size pA (i64s ps)) (h1 : ps.length ≤ 1200000000) (h2 : l.length ≤ 1200000000) :
  Calls Tryz.prog 105 #[.slice lA l.length lc, .int .i64 d, .slice pA ps.length pc] w (IntsR (ps.map (pickI l d)) w) := by
 obtain ⟨i1, hi1, hiz, his, hib⟩ := info_parts Tryz.info64
 obtain ⟨w0, hmk, hown, hg0⟩ := run_make_full (P := Tryz.prog) w w.heap.size 22 2 i1 (.int .i64 0) 1 Tryz.underlying22 hi1 hiz his .i64 .i64 ps.length (by rw [hib]; omega) (by unfold maxLen; omega) (Nat.le_refl _)
 rw [show (madeCells (Value.int .i64 0).cells (ps.length * 1)).toList = List.replicate ps.length (.int .i64 0) by rw [Nat.mul_one]; exact toList_madeCells_one _ ps.length] at hown
 have HOWN := hide hown
 have HG0 := hide hg0
 have HCL := hide h1
 have HLL := hide h2
 have HL := hide hl
 have HP := hide hp
 clear hown hg0 h1 h2 hl hp hi1 hiz his hib
 go_enter Tryz.func105, Tryz.ntmps105
 go_wp2_with fail
 go_loopw [15] (fun i wr => ∃ j : Nat, i = .int .i64 (j : Int) ∧ j ≤ ps.length ∧
  wr.ownsRow w.heap.size 2 1 (.slice (some ⟨w.heap.size, 0, none⟩) ps.length ps.length) ps.length (i64s ((ps.take j).map (pickI l d)) ++ List.replicate (ps.length - j) (.int .i64 0)) ∧ w.grownBy wr none) (fun i _ => ps.length - (intOf i).toNat)
 case atStart => exact ⟨0, rfl, Nat.zero_le _, by simpa [i64s] using HOWN.out, HG0.out⟩
 case round =>
  obtain ⟨j, rfl, hj, how, hgr⟩ := hrel
  by_cases hlt : j < ps.length
  ·have hlt1 : (j : Int) < (ps.length : Int) := by omega
   obtain ⟨pp, ep, hpp, hcp⟩ := HP.out.i64 hlt
   obtain ⟨p, hpe⟩ : ∃ p, p = ps[j] := ⟨_, rfl⟩
   rw [← hpe] at hcp
   have cp := cell_gb hcp hgr
   obtain ⟨xs, hxs⟩ : ∃ xs, xs = (ps.take j).map (pickI l d) := ⟨_, rfl⟩
   have htk : ps.take (j + 1) = ps.take j ++ [ps[j]] := by rw [List.take_add_one, List.getElem?_eq_getElem hlt]; rfl
   have HTK := hide (show (ps.take (j + 1)).map (pickI l d) = xs ++ [pickI l d p] by rw [htk, List.map_append, ← hxs, hpe]; rfl)
   have hxl : xs.length = j := by rw [hxs, List.length_map, List.length_take]; omega
   have HLN := hide hxl
   rw [← hxs] at how
   have h6 : IntKind.i64.wrap ((j : Int) + 1) = ((j + 1 : Nat) : Int) := by rw [IntKind.wrap_i64]; have := HCL.out; omega
   have HO5 := hide how
   have HGR := hide hgr
   have HLT := hide hlt
   have c5 := how.cellAt j (by omega)
   rw [List.getElem?_append_right (by simp [i64s, hxl]), show (i64s xs).length = j by simp [i64s, hxl], Nat.sub_self, List.getElem?_replicate, if_pos (by omega)] at c5
   have z5 := how.frozenAt j
   have how2 := (how.stored j (.int .i64 d)).1
   have HO6 := hide how2
   have HG6 := hide (gb_setCell hgr (.inr (Nat.le_refl w.heap.size)) (.int .i64 d) : w.grownBy (wr.setCell ⟨w.heap.size, j, none⟩ (.int .i64 d)) none)
   have HST := hide (i64s_set_mid xs)
   subst ep
   clear hcp hpp how how2 hgr hlt hj hpe hxs htk hxl
   by_cases q0 : 0 ≤ p
   ·by_cases q1 : p < (l.length : Int)
    ·have HPI := hide (show pickI l d p = l.getD p.toNat 0 by unfold pickI; rw [if_pos ⟨q0, q1⟩])
     obtain ⟨q, rfl⟩ : ∃ q : Nat, p = (q : Int) := ⟨p.toNat, by omega⟩
     have hq : q < l.length := by omega
     obtain ⟨pl, el, hpl, hcl⟩ := HL.out.i64 hq
     obtain ⟨x, hx⟩ : ∃ x, x = l.getD q 0 := ⟨_, rfl⟩
     have hxe : l[q] = x := by rw [hx, List.getD_eq_getElem?_getD, List.getElem?_eq_getElem hq]; rfl
     rw [hxe] at hcl
     have cl := cell_gb hcl HG6.out
     have c6 := HO6.out.cellAt j (by have := HLT.out; omega)
     have hc6 : (wr.setCell ⟨w.heap.size, j, none⟩ (.int .i64 d)).cell? ⟨w.heap.size, j, none⟩ = some (.int .i64 d) := by rw [c6, List.getElem?_set_self (by simp [i64s]; have := HLT.out; have := HLN.out; omega)]
     clear c6
     have z6 := HO6.out.frozenAt j
     have HPX := hide (show pickI l d (q : Int) = x by rw [HPI.out, hx]; rfl)
     subst el
     clear hcl hpl hx hxe HPI hq
     go_wp2_with fail
     go_roundw
     case rel =>
      have hlt := HLT.out
      refine ⟨j + 1, by go_num, by omega, ?_, gb_setCell HG6.out (.inr (Nat.le_refl _)) _⟩
      rw [HTK.out, HPX.out]
      have h1 := (HO6.out.stored j (.int .i64 x)).1
      obtain ⟨k, hk⟩ : ∃ k, ps.length - j = k + 1 := ⟨ps.length - j - 1, by omega⟩
      rw [hk, List.set_set] at h1
      have h2 := HST.out x k
      rw [HLN.out] at h2
      rw [h2] at h1
      rw [show ps.length - (j + 1) = k by omega]
      exact h1
     case measure =>
      have hlt := HLT.out
      simp [intOf]
      omega
    ·have HPX := hide (show pickI l d p = d by unfold pickI; rw [if_neg (fun h => q1 h.2)])
     go_wp2_with fail
     go_roundw
     case rel =>
      have hlt := HLT.out
      refine ⟨j + 1, by go_num, by omega, ?_, HG6.out⟩
      rw [HTK.out, HPX.out]
      have h1 := HO6.out
      obtain ⟨k, hk⟩ : ∃ k, ps.length - j = k + 1 := ⟨ps.length - j - 1, by omega⟩
      rw [hk] at h1
      have h2 := HST.out d k
      rw [HLN.out] at h2
      rw [h2] at h1
      rw [show ps.length - (j + 1) = k by omega]
      exact h1
     case measure =>
      have hlt := HLT.out
      simp [intOf]
      omega
   ·have HPX := hide (show pickI l d p = d by unfold pickI; rw [if_neg (fun h => q0 h.1)])
    go_wp2_with fail
    go_roundw
    case rel =>
     have hlt := HLT.out
     refine ⟨j + 1, by go_num, by omega, ?_, HG6.out⟩
     rw [HTK.out, HPX.out]
     have h1 := HO6.out
     obtain ⟨k, hk⟩ : ∃ k, ps.length - j = k + 1 := ⟨ps.length - j - 1, by omega⟩
     rw [hk] at h1
     have h2 := HST.out d k
     rw [HLN.out] at h2
     rw [h2] at h1
     rw [show ps.length - (j + 1) = k by omega]
     exact h1
    case measure =>
     have hlt := HLT.out
     simp [intOf]
     omega
  ·have hlt1 : ¬ (j : Int) < (ps.length : Int) := by omega
   obtain rfl : j = ps.length := by omega
   have HO := hide (show wr.ownsRow w.heap.size 2 1 (.slice (some ⟨w.heap.size, 0, none⟩) ps.length ps.length) ps.length (i64s (ps.map (pickI l d))) by simpa using how)
   have HGR := hide hgr
   clear hgr how
   go_wp2_with fail
   exact bodyPost_ret (v := .slice (some ⟨w.heap.size, 0, none⟩) ps.length ps.length) (by simp [results, Tryz.results105, go_sem]) rfl ⟨HGR.out, _, ps.length, by rw [List.length_map]; exact Nat.le_refl _, by rw [List.length_map], by rw [List.length_map]; exact HO.out⟩
end Go.Proofs.YtbmgodmfpoappaaGreat
namespace Go.Proofs.YtbmgodmfpoappaaGreat
open Go.RowKit
attribute [local go_sem ↓] Go.wp_at_zero Go.wp_at_succ
set_option maxHeartbeats 2000000 in
set_option maxRecDepth 100000 in
theorem isSeq_any (t : Int) (nA : Option Addr) (nl nc : Nat) (sA : Option Addr) (sl sc : Nat) (c3 : Value) (w : World) :
  Calls Tryz.prog 56 #[.agg #[.int .i64 t, .slice nA nl nc, .slice sA sl sc, c3]] w fun e w' => e = .returned (.bool (kindO t sl nl == t)) ∧ w.grownBy w' none := by
 obtain ⟨wa, hwa⟩ : ∃ wa, wa = w.alloc (.cells #[.int .i64 t, .slice nA nl nc, .slice sA sl sc, c3] 26) := ⟨_, rfl⟩
 have hc := C4.box w (.int .i64 t) (.slice nA nl nc) (.slice sA sl sc) c3 26
 rw [← hwa] at hc
 have HC := hide hc
 have HG := hide (show w.grownBy wa none by rw [hwa]; exact gb_alloc (gb_refl w none) _)
 have HWE := hide hwa
 clear hc hwa
 go_enter Tryz.func56, Tryz.ntmps56
 go_wp2_with fail
 rw [← HWE.out]
 refine wp_region_facts' 5 (by kernel_rfl) (by kernel_rfl) ?_
 intro A O W L HA HO HW HL
 simp only [List.take_succ_cons, List.take_zero]
 have HS := hide (show A.tmps.size = 8 by rw [HA.out]; rfl)
 have HGW := hide (show wa.grownBy W none by rw [HW.out]; exact gb_drew (gb_refl wa none))
 have A1 := hide (show A.eval (.tmp 1) = .pointer (some ⟨w.heap.size, 0, none⟩) by rw [HA.out]; rfl)
 refine wpFacts_lit (.agg #[.int .i64 t, .slice nA nl nc, .slice sA sl sc, c3]) rfl ?_ ?_
 ·intro a wq hw hl
  have e1 : a.tmps[1]?.getD undef = .pointer (some ⟨w.heap.size, 0, none⟩) := (hl 1 (by first | (simp [Op.operands]; done) | simp [Op.operands, Call.operands]) (by rw [HS.out]; decide)).trans A1.out
  obtain ⟨c0, c1, c2, c3⟩ := HC.out.gb (gb_trans HGW.out hw (.inl rfl))
  clear hl
  go_simp
 refine wpFacts_step (fun vq _ => vq = .int .i64 (kindO t sl nl)) rfl (Lit.up _) ?_ ?_
 ·intro a wq hw hl
  have e3 : a.tmps[3]?.getD undef = .agg #[.int .i64 t, .slice nA nl nc, .slice sA sl sc, c3] := hl 3 (by first | (simp [Op.operands]; done) | simp [Op.operands, Call.operands]) (by rw [HS.out]; decide)
  clear hl
  go_simp
  exact gUpon_lit (kind_any _ _ _ _ _ _ _ _ _)
 refine wpFacts_lit (.pointer (some ⟨w.heap.size, 0, none⟩)) rfl ?_ ?_
 ·intro a wq hw hl
  have e1 : a.tmps[1]?.getD undef = .pointer (some ⟨w.heap.size, 0, none⟩) := (hl 1 (by first | (simp [Op.operands]; done) | simp [Op.operands, Call.operands]) (by rw [HS.out]; decide)).trans A1.out
  clear hl
  go_simp
 refine wpFacts_lit (.int .i64 t) rfl ?_ ?_
 ·intro a wq hw hl
  have e5 : a.tmps[5]?.getD undef = .pointer (some ⟨w.heap.size, 0, none⟩) := hl 5 (by first | (simp [Op.operands]; done) | simp [Op.operands, Call.operands]) (by rw [HS.out]; decide)
  obtain ⟨c0, c1, c2, c3⟩ := HC.out.gb (gb_trans HGW.out hw (.inl rfl))
  clear hl
  go_simp
 refine wpFacts_lit (.bool (kindO t sl nl == t)) rfl ?_ ?_
 ·intro a wq hw hl
  have e4 : a.tmps[4]?.getD undef = .int .i64 (kindO t sl nl) := hl 4 (by first | (simp [Op.operands]; done) | simp [Op.operands, Call.operands]) (by rw [HS.out]; decide)
  have e6 : a.tmps[6]?.getD undef = .int .i64 t := hl 6 (by first | (simp [Op.operands]; done) | simp [Op.operands, Call.operands]) (by rw [HS.out]; decide)
  clear hl
  go_simp
 refine HL.out _ (fun a' w5 hc => ?_)
 have e7 : a'.eval (.tmp 7) = .bool (kindO t sl nl == t) := hc.fact 7 (by rw [HS.out]; decide)
 have hgw5 := gb_trans HGW.out hc.grown (.inl rfl)
 have hfr := hc.frame [3, 4, 5, 6, 7, 2] (by rw [HO.out]; kernel_rfl)
 rw [hfr]
 clear hfr hc
 rw [HA.out]
 clear HA HO HL HW HS HGW A1
 clear A O W L
 simp only [List.drop_succ_cons, List.drop_zero, List.foldl_cons, List.foldl_nil, Act.put, List.setIfInBounds_toArray, List.set_cons_succ, List.set_cons_zero]
 rw [e7]
 generalize a'.eval (.tmp 3) = x3
 generalize a'.eval (.tmp 4) = x4
 generalize a'.eval (.tmp 5) = x5
 generalize a'.eval (.tmp 6) = x6
 generalize a'.eval (.tmp 2) = x2
 clear e7
 clear a'
 have HG5 := hide (gb_trans HG.out hgw5 (.inl rfl))
 clear hgw5
 go_wp2_with fail
 exact bodyPost_ret (v := .bool (kindO t sl nl == t)) (by simp [results, Tryz.results56, go_sem]) rfl ⟨rfl, HG5.out⟩
end Go.Proofs.YtbmgodmfpoappaaGreat
namespace Go.Proofs.YtbmgodmfpoappaaGreat
open Go.RowKit
attribute [local go_sem ↓] Go.wp_at_zero Go.wp_at_succ
set_option maxHeartbeats 2000000 in
set_option maxRecDepth 100000 in
theorem null2_any (w : World) : Calls Tryz.prog 106 #[.int .i64 2] w (NewV (.mk (-2) [-9223372036854775808] [] []) w) := by
 obtain ⟨wa, hwa⟩ : ∃ wa, wa = w.alloc (.cells #[.int .i64 0, .slice none 0 0, .slice none 0 0, .slice none 0 0] 26) := ⟨_, rfl⟩
 have hr : wa.heap[w.heap.size]? = some (.cells #[.int .i64 0, .slice none 0 0, .slice none 0 0, .slice none 0 0] 26 (0, 0)) := by rw [hwa]; exact heap_alloc_new w _
 have HR := hide hr
 have HG := hide (show w.grownBy wa none by rw [hwa]; exact gb_alloc (gb_refl w none) _)
 have HS := hide (show wa.heap.size = w.heap.size + 1 by rw [hwa]; simp)
 have HWE := hide hwa
 clear hr hwa
 go_enter Tryz.func106, Tryz.ntmps106
 go_wp2_with fail
 rw [← HWE.out]
 go_wp2_with (go_at_call 134; refine (atomI_any _ _).mono ?_; rintro e w1 ⟨nA, nc, sA, sc, lA, lc, f, he, ho, hn, hg1⟩; obtain rfl : e = .returned (.agg #[.int .i64 (-2), .slice nA 1 nc, .slice sA 0 sc, .slice lA 0 lc]) := he; have HO := hide ho; have HN := hide hn; have HG1 := hide (gb_trans HG.out hg1 (.inl rfl)); have hr2 := (hg1.block _ (blk_lt HR.out) (by simp)).trans HR.out; have HR2 := hide hr2; obtain ⟨z0, z1, z2, z3, y0, y1, y2, y3⟩ := zz4 hr2; clear ho hn hg1 hr2)
 have hb := put_four HR2.out (.int .i64 (-2)) (.slice nA 1 nc) (.slice sA 0 sc) (.slice lA 0 lc)
 have m0 : ((((w1.setCell ⟨w.heap.size, 0, none⟩ (.int .i64 (-2))).setCell ⟨w.heap.size, 1, none⟩ (.slice nA 1 nc)).setCell ⟨w.heap.size, 2, none⟩ (.slice sA 0 sc)).setCell ⟨w.heap.size, 3, none⟩ (.slice lA 0 lc)).cell? ⟨w.heap.size, 0, none⟩ = some (.int .i64 (-2)) := by rw [blk_cell hb]; rfl
 have m1 : ((((w1.setCell ⟨w.heap.size, 0, none⟩ (.int .i64 (-2))).setCell ⟨w.heap.size, 1, none⟩ (.slice nA 1 nc)).setCell ⟨w.heap.size, 2, none⟩ (.slice sA 0 sc)).setCell ⟨w.heap.size, 3, none⟩ (.slice lA 0 lc)).cell? ⟨w.heap.size, 1, none⟩ = some (.slice nA 1 nc) := by rw [blk_cell hb]; rfl
 have m2 : ((((w1.setCell ⟨w.heap.size, 0, none⟩ (.int .i64 (-2))).setCell ⟨w.heap.size, 1, none⟩ (.slice nA 1 nc)).setCell ⟨w.heap.size, 2, none⟩ (.slice sA 0 sc)).setCell ⟨w.heap.size, 3, none⟩ (.slice lA 0 lc)).cell? ⟨w.heap.size, 2, none⟩ = some (.slice sA 0 sc) := by rw [blk_cell hb]; rfl
 have m3 : ((((w1.setCell ⟨w.heap.size, 0, none⟩ (.int .i64 (-2))).setCell ⟨w.heap.size, 1, none⟩ (.slice nA 1 nc)).setCell ⟨w.heap.size, 2, none⟩ (.slice sA 0 sc)).setCell ⟨w.heap.size, 3, none⟩ (.slice lA 0 lc)).cell? ⟨w.heap.size, 3, none⟩ = some (.slice lA 0 lc) := by rw [blk_cell hb]; rfl
 refine bodyPost_ret (v := .agg #[.int .i64 (-2), .slice nA 1 nc, .slice sA 0 sc, .slice lA 0 lc]) (by simp [results, Tryz.results106, go_sem, m0, m1, m2, m3]) rfl ?_
 refine ⟨nA, nc, sA, sc, lA, lc, f, rfl, ?_, ⟨HN.out.1, fun b hb => ?_⟩, put_four_gb HG1.out (Nat.le_refl _) _ _ _ _⟩
 ·exact VOw.keep _ _ _ HO.out fun b hm => put_four_other (by have := (HN.out.2 b hm).1; have := HS.out; omega) _ _ _ _
 ·have h2 := HN.out.2 b hb
  have := HS.out
  refine ⟨by omega, ?_⟩
  simp [World.setCell]
  exact h2.2
end Go.Proofs.YtbmgodmfpoappaaGreat
namespace Go.Proofs.YtbmgodmfpoappaaGreat
open Go.RowKit
attribute [local go_sem ↓] Go.wp_at_zero Go.wp_at_succ
def RdIF (l : List Int) : Fct := fun v w => ∃ A c, v = .slice A l.length c ∧ Rd w w.heap.size A (i64s l)
theorem RdIF.up (l : List Int) : (RdIF l).Up := by
 rintro v w w' ⟨A, c, h1, h2⟩ hg
 exact ⟨A, c, h1, (h2.grown hg (Nat.le_refl _) (by simp)).more hg.size⟩
def CellF (u : Value) : Fct := fun v w => ∃ ad, v = .pointer (some ad) ∧ w.cell? ad = some u
theorem CellF.up (u : Value) : (CellF u).Up := by
 rintro v w w' ⟨ad, h1, h2⟩ hg
 exact ⟨ad, h1, cell_gb h2 hg⟩
def OwnIF (base : Nat) (l : List Int) : Fct := fun v w => ∃ A c, l.length ≤ c ∧ v = .slice A l.length c ∧ w.ownsRow base 2 1 (.slice A l.length c) l.length (i64s l)
theorem own_up {w w' : World} {base n : Nat} {e : TypeId} {size : Nat} {v : Value} {xs : List Value} (h : w.ownsRow base e size v n xs) (hg : w.grownBy w' none) : w'.ownsRow base e size v n xs :=
 h.kept hg (by cases v.ownBlock <;> simp)
theorem OwnIF.up (base : Nat) (l : List Int) : (OwnIF base l).Up := by
 rintro v w w' ⟨A, c, h1, h2, h3⟩ hg
 exact ⟨A, c, h1, h2, own_up h3 hg⟩
def OwnVF (base : Nat) (l : List Int) : Fct := fun v w => ∃ A c, l.length ≤ c ∧ v = .agg #[.int .i64 2, .slice A l.length c, .slice none 0 0, .slice none 0 0] ∧ w.ownsRow base 2 1 (.slice A l.length c) l.length (i64s l)
theorem OwnVF.up (base : Nat) (l : List Int) : (OwnVF base l).Up := by
 rintro v w w' ⟨A, c, h1, h2, h3⟩ hg
 exact ⟨A, c, h1, h2, own_up h3 hg⟩
section
attribute [-go_sem] Go.storeCells
set_option maxHeartbeats 4000000 in
set_option maxRecDepth 100000 in
theorem index_ints (x : Vl) (ps : List Int) (w : World) (B : Nat) (nA : Option Addr) (nc : Nat) (sA : Option Addr) (sc : Nat) (lA : Option Addr) (lc : Nat) (pA : Option Addr) (pc : Nat)
  (hx : IntV x) (ht : x.t = 2) (hB : B ≤ w.heap.size) (vx : VB w B x nA nc sA sc lA lc) (hp : Rd w w.heap.size pA (i64s ps)) (h1 : ps.length ≤ 1200000000) :
  Calls Tryz.prog 59 #[.agg #[.int .i64 x.t, .slice nA x.n.length nc, .slice sA x.s.length sc, .slice lA x.l.length lc], .slice pA ps.length pc] w (DoR (.ok (2, ps.map (pickI x.n (-9223372036854775808)))) w) := by
 have hq := kindO_int hx
 rw [ht] at hq ⊢
 obtain ⟨wa, hwa⟩ : ∃ wa, wa = (w.alloc (.cells #[.int .i64 2, .slice nA x.n.length nc, .slice sA x.s.length sc, .slice lA x.l.length lc] 26)).alloc (.cells #[.int .i64 0, .slice none 0 0, .slice none 0 0, .slice none 0 0] 26) := ⟨_, rfl⟩
 have bx : wa.heap[w.heap.size]? = some (.cells #[.int .i64 2, .slice nA x.n.length nc, .slice sA x.s.length sc, .slice lA x.l.length lc] 26 (0, 0)) := by rw [hwa]; exact (Below.heap_alloc _ _ _ (by rw [World.size_alloc]; omega)).trans (heap_alloc_new w _)
 have bz : wa.heap[w.heap.size + 1]? = some (.cells #[.int .i64 0, .slice none 0 0, .slice none 0 0, .slice none 0 0] 26 (0, 0)) := by rw [hwa]; have := heap_alloc_new (w.alloc (.cells #[.int .i64 2, .slice nA x.n.length nc, .slice sA x.s.length sc, .slice lA x.l.length lc] 26)) (.cells #[.int .i64 0, .slice none 0 0, .slice none 0 0, .slice none 0 0] 26); rwa [World.size_alloc] at this
 have HBX := hide bx
 have HBZ := hide bz
 have HG := hide (show w.grownBy wa none by rw [hwa]; exact gb_alloc (gb_alloc (gb_refl w none) _) _)
 have HWE := hide hwa
 have HQ := hide (show (kindO 2 x.s.length x.n.length == 2) = true by rw [hq]; rfl)
 have HPK := hide (fun w2 (hg : w.grownBy w2 none) => picked_any x.n ps (-9223372036854775808) w2 nA nc pA pc (((vx.gb hg hB).n).more (Nat.le_trans hB hg.size)) ((hp.grown hg (Nat.le_refl _) (by simp)).more hg.size) h1 (Nat.le_trans hx.n (by omega)))
 obtain ⟨c0, c1, c2, c3⟩ : C4 wa w.heap.size 0 (.int .i64 2) (.slice nA x.n.length nc) (.slice sA x.s.length sc) (.slice lA x.l.length lc) := c4k bx
 obtain ⟨rl, hrl⟩ : ∃ rl, rl = ps.map (pickI x.n (-9223372036854775808)) := ⟨_, rfl⟩
 rw [← hrl] at HPK ⊢
 clear bx bz hwa hx hB vx hp h1 ht hq hrl
 go_enter Tryz.func59, Tryz.ntmps59
 go_wp2_with fail
 rw [← HWE.out]
 go_wp2_with (go_at_call 56; refine (isSeq_any _ _ _ _ _ _ _ _ _).mono ?_; rintro e w1 ⟨rfl, hg1⟩; have hqq := HQ.out; have HG1 := hide hg1; clear c0 c1 c2 c3; obtain ⟨c0, c1, c2, c3⟩ := c4k (blk_keep HBX.out hg1 (by simp)); clear hg1)
 clear hqq
 have HC := hide (show C4 w1 w.heap.size 0 (.int .i64 2) (.slice nA x.n.length nc) (.slice sA x.s.length sc) (.slice lA x.l.length lc) from ⟨c0, c1, c2, c3⟩)
 have HGG := hide (gb_trans HG.out HG1.out (.inl rfl))
 clear c0 c1 c2 c3 HQ HWE
 refine wp_region_facts' 13 (by kernel_rfl) (by kernel_rfl) ?_
 intro A O W L HA HO HW HL
 simp only [List.take_succ_cons, List.take_zero]
 have HS := hide (show A.tmps.size = 47 by rw [HA.out]; rfl)
 have HGW := hide (show w1.grownBy W none by rw [HW.out]; exact gb_drew (gb_refl w1 none))
 have A1 := hide (show A.eval (.tmp 1) = .slice pA ps.length pc by rw [HA.out]; rfl)
 have A2 := hide (show A.eval (.tmp 2) = .pointer (some ⟨w.heap.size, 0, none⟩) by rw [HA.out]; rfl)
 refine wpFacts_lit (.pointer (some ⟨w.heap.size, 0, none⟩)) rfl ?_ ?_
 ·intro a wq hw hl
  have e2 : a.tmps[2]?.getD undef = .pointer (some ⟨w.heap.size, 0, none⟩) := (hl 2 (by first | (simp [Op.operands]; done) | simp [Op.operands, Call.operands]) (by rw [HS.out]; decide)).trans A2.out
  clear hl
  go_simp
 refine wpFacts_lit (.int .i64 2) rfl ?_ ?_
 ·intro a wq hw hl
  have e34 : a.tmps[34]?.getD undef = .pointer (some ⟨w.heap.size, 0, none⟩) := hl 34 (by first | (simp [Op.operands]; done) | simp [Op.operands, Call.operands]) (by rw [HS.out]; decide)
  obtain ⟨c0, c1, c2, c3⟩ := HC.out.gb (gb_trans HGW.out hw (.inl rfl))
  clear hl
  go_simp
 refine wpFacts_lit (.pointer (some ⟨w.heap.size, 1, none⟩)) rfl ?_ ?_
 ·intro a wq hw hl
  have e2 : a.tmps[2]?.getD undef = .pointer (some ⟨w.heap.size, 0, none⟩) := (hl 2 (by first | (simp [Op.operands]; done) | simp [Op.operands, Call.operands]) (by rw [HS.out]; decide)).trans A2.out
  clear hl
  go_simp
 refine wpFacts_lit (.slice nA x.n.length nc) rfl ?_ ?_
 ·intro a wq hw hl
  have e36 : a.tmps[36]?.getD undef = .pointer (some ⟨w.heap.size, 1, none⟩) := hl 36 (by first | (simp [Op.operands]; done) | simp [Op.operands, Call.operands]) (by rw [HS.out]; decide)
  obtain ⟨c0, c1, c2, c3⟩ := HC.out.gb (gb_trans HGW.out hw (.inl rfl))
  clear hl
  go_simp
 refine wpFacts_lit (.pointer (some ⟨w.heap.size, 0, none⟩)) rfl ?_ ?_
 ·intro a wq hw hl
  have e2 : a.tmps[2]?.getD undef = .pointer (some ⟨w.heap.size, 0, none⟩) := (hl 2 (by first | (simp [Op.operands]; done) | simp [Op.operands, Call.operands]) (by rw [HS.out]; decide)).trans A2.out
  clear hl
  go_simp
 refine wpFacts_lit (.int .i64 2) rfl ?_ ?_
 ·intro a wq hw hl
  have e38 : a.tmps[38]?.getD undef = .pointer (some ⟨w.heap.size, 0, none⟩) := hl 38 (by first | (simp [Op.operands]; done) | simp [Op.operands, Call.operands]) (by rw [HS.out]; decide)
  obtain ⟨c0, c1, c2, c3⟩ := HC.out.gb (gb_trans HGW.out hw (.inl rfl))
  clear hl
  go_simp
 refine wpFacts_step (ValF (.mk (-2) [-9223372036854775808] [] [])) rfl (ValF.up _) ?_ ?_
 ·intro a wq hw hl
  have e39 : a.tmps[39]?.getD undef = .int .i64 2 := hl 39 (by first | (simp [Op.operands]; done) | simp [Op.operands, Call.operands]) (by rw [HS.out]; decide)
  clear hl
  go_simp
  refine ⟨gb_refl _ none, (null2_any _).mono fun _ _ h => ?_⟩
  obtain ⟨x9, h1, h2, h3⟩ := ValF.of_new h
  exact ⟨x9, h1, h2, h3⟩
 refine wpFacts_step (RdIF [-9223372036854775808]) rfl (RdIF.up _) ?_ ?_
 ·intro a wq hw hl
  have h40 : (ValF (.mk (-2) [-9223372036854775808] [] [])) (a.tmps[40]?.getD undef) wq := hl 40 (by first | (simp [Op.operands]; done) | simp [Op.operands, Call.operands]) (by rw [HS.out]; decide)
  obtain ⟨mA, mc, tA, tc, kA, kc, e40, hv⟩ := h40
  clear hl
  go_simp
  exact ⟨gb_refl _ none, mA, mc, rfl, hv.n⟩
 refine wpFacts_step (CellF (.int .i64 (-9223372036854775808))) rfl (CellF.up _) ?_ ?_
 ·intro a wq hw hl
  have h41 : (RdIF [-9223372036854775808]) (a.tmps[41]?.getD undef) wq := hl 41 (by first | (simp [Op.operands]; done) | simp [Op.operands, Call.operands]) (by rw [HS.out]; decide)
  obtain ⟨mA, mc, e41, hr⟩ := h41
  obtain ⟨ad, rfl, _, hcl⟩ := hr.i64 (k := 0) (by decide)
  have e41a : a.tmps[41]?.getD undef = .slice (some ad) 1 mc := e41
  clear e41
  clear hl
  go_simp
  refine ⟨gb_refl _ none, ad, rfl, ?_⟩
  have hcl : wq.cell? (ad.add 0) = some (.int .i64 (-9223372036854775808)) := hcl
  rwa [Addr.add_zero'] at hcl
 refine wpFacts_lit (.int .i64 (-9223372036854775808)) rfl ?_ ?_
 ·intro a wq hw hl
  have h42 : (CellF (.int .i64 (-9223372036854775808))) (a.tmps[42]?.getD undef) wq := hl 42 (by first | (simp [Op.operands]; done) | simp [Op.operands, Call.operands]) (by rw [HS.out]; decide)
  obtain ⟨ad, e42, hcl⟩ := h42
  clear hl
  go_simp
 refine wpFacts_lit (.slice pA ps.length pc) rfl ?_ ?_
 ·intro a wq hw hl
  have e1 : a.tmps[1]?.getD undef = .slice pA ps.length pc := (hl 1 (by first | (simp [Op.operands]; done) | simp [Op.operands, Call.operands]) (by rw [HS.out]; decide)).trans A1.out
  clear hl
  go_simp
 refine wpFacts_step (OwnIF w.heap.size rl) rfl (OwnIF.up _ _) ?_ ?_
 ·intro a wq hw hl
  have e37 : a.tmps[37]?.getD undef = .slice nA x.n.length nc := hl 37 (by first | (simp [Op.operands]; done) | simp [Op.operands, Call.operands]) (by rw [HS.out]; decide)
  have e43 : a.tmps[43]?.getD undef = .int .i64 (-9223372036854775808) := hl 43 (by first | (simp [Op.operands]; done) | simp [Op.operands, Call.operands]) (by rw [HS.out]; decide)
  have e44 : a.tmps[44]?.getD undef = .slice pA ps.length pc := hl 44 (by first | (simp [Op.operands]; done) | simp [Op.operands, Call.operands]) (by rw [HS.out]; decide)
  clear hl
  go_simp
  refine ⟨gb_refl _ none, (HPK.out _ (gb_trans HGG.out (gb_trans HGW.out hw (.inl rfl)) (.inl rfl))).mono fun _ _ h => ?_⟩
  obtain ⟨hg, A, c, h1, h2, h3⟩ := h
  exact ⟨_, h2, hg, A, c, h1, rfl, own_low h3 (Nat.le_trans HGG.out.size (Nat.le_trans HGW.out.size hw.size))⟩
 refine wpFacts_step (OwnVF w.heap.size rl) rfl (OwnVF.up _ _) ?_ ?_
 ·intro a wq hw hl
  have e35 : a.tmps[35]?.getD undef = .int .i64 2 := hl 35 (by first | (simp [Op.operands]; done) | simp [Op.operands, Call.operands]) (by rw [HS.out]; decide)
  have h45 : (OwnIF w.heap.size rl) (a.tmps[45]?.getD undef) wq := hl 45 (by first | (simp [Op.operands]; done) | simp [Op.operands, Call.operands]) (by rw [HS.out]; decide)
  obtain ⟨rA, rc, h1, e45, h2⟩ := h45
  clear hl
  go_simp
  exact ⟨gb_refl _ none, rA, rc, h1, rfl, h2⟩
 refine HL.out _ (fun a' w5 hc => ?_)
 have h46 : (OwnVF w.heap.size rl) (a'.eval (.tmp 46)) w5 := hc.fact 46 (by rw [HS.out]; decide)
 obtain ⟨rA, rc, hlc, e46, ho⟩ := h46
 have hgw5 := gb_trans HGW.out hc.grown (.inl rfl)
 have hfr := hc.frame [34, 35, 36, 37, 38, 39, 40, 41, 42, 43, 44, 45, 46, 5] (by rw [HO.out]; kernel_rfl)
 rw [hfr]
 clear hfr hc
 rw [HA.out]
 clear HA HO HL HW HS HGW A1 A2
 clear A O W L
 simp only [List.drop_succ_cons, List.drop_zero, List.foldl_cons, List.foldl_nil, Act.put, List.setIfInBounds_toArray, List.set_cons_succ, List.set_cons_zero]
 rw [e46]
 generalize a'.eval (.tmp 34) = x34
 generalize a'.eval (.tmp 35) = x35
 generalize a'.eval (.tmp 36) = x36
 generalize a'.eval (.tmp 37) = x37
 generalize a'.eval (.tmp 38) = x38
 generalize a'.eval (.tmp 39) = x39
 generalize a'.eval (.tmp 40) = x40
 generalize a'.eval (.tmp 41) = x41
 generalize a'.eval (.tmp 42) = x42
 generalize a'.eval (.tmp 43) = x43
 generalize a'.eval (.tmp 44) = x44
 generalize a'.eval (.tmp 45) = x45
 generalize a'.eval (.tmp 5) = x5
 clear e46
 clear a'
 have HG5 := hide (gb_trans HGG.out hgw5 (.inl rfl))
 have hbz := blk_keep HBZ.out (gb_trans HG1.out hgw5 (.inl rfl)) (by simp)
 have HZ := hide hbz
 have HO := hide ho
 have HLC := hide hlc
 have hst := storeCells_row (P := Tryz.prog) (c' := #[.int .i64 2, .slice rA rl.length rc, .slice none 0 0, .slice none 0 0]) hbz info4 rfl (by simp [Value.oneCell'])
 clear hbz ho hlc hgw5 HPK HC HBX HBZ HG1 HGG HG
 go_wp2_with fail
 have hrow := heap_setRow_at _ _ _ #[.int .i64 2, .slice rA rl.length rc, .slice none 0 0, .slice none 0 0] _ _ HZ.out
 have m0 := blk_cell hrow 0
 have m1 := blk_cell hrow 1
 have m2 := blk_cell hrow 2
 have m3 := blk_cell hrow 3
 simp only [List.getElem?_toArray, List.getElem?_cons_zero, List.getElem?_cons_succ] at m0 m1 m2 m3
 have hon := HO.out.kept (gb_setRow_own w5 (w.heap.size + 1) #[.int .i64 2, .slice rA rl.length rc, .slice none 0 0, .slice none 0 0]) (.inr (own_ne HO.out HZ.out (by decide)))
 exact bodyPost_ret (v := .tuple #[.agg #[.int .i64 2, .slice rA rl.length rc, .slice none 0 0, .slice none 0 0], .int .i64 0]) (by simp [results, Tryz.results59, go_sem, m0, m1, m2, m3]) rfl ⟨gb_setRow HG5.out _ _ (by omega), rA, rc, HLC.out, rfl, hon⟩
end
end Go.Proofs.YtbmgodmfpoappaaGreat
namespace Go.Proofs.YtbmgodmfpoappaaGreat
open Go.RowKit
attribute [local go_sem ↓] Go.wp_at_zero Go.wp_at_succ
theorem mapped_at (l : List Int) (g : Int → Int) (j : Nat) (hj : j < l.length) : (i64s ((l.take j).map g ++ l.drop j))[j]? = some (.int .i64 (l.getD j 0)) := by
 have e : ((l.take j).map g).length = j := by simp; omega
 rw [show i64s ((l.take j).map g ++ l.drop j) = i64s ((l.take j).map g) ++ i64s (l.drop j) by simp [i64s], List.getElem?_append_right (by simp [i64s]; omega), show (i64s ((l.take j).map g)).length = j by simp [i64s]; omega, Nat.sub_self]
 simp only [i64s, List.getElem?_map, List.getElem?_drop, Nat.add_zero, List.getElem?_eq_getElem hj, Option.map_some]
 rw [List.getD_eq_getElem?_getD, List.getElem?_eq_getElem hj]
 rfl
theorem mapped_set (l : List Int) (g : Int → Int) (j : Nat) (hj : j < l.length) : (i64s ((l.take j).map g ++ l.drop j)).set j (.int .i64 (g (l.getD j 0))) = i64s ((l.take (j + 1)).map g ++ l.drop (j + 1)) := by
 have e : (i64s ((l.take j).map g)).length = j := by simp [i64s]; omega
 have hd : l.drop j = l[j] :: l.drop (j + 1) := List.drop_eq_getElem_cons hj
 have hg : l.getD j 0 = l[j] := by rw [List.getD_eq_getElem?_getD, List.getElem?_eq_getElem hj]; rfl
 have h1 : i64s ((l.take j).map g ++ l.drop j) = i64s ((l.take j).map g) ++ (.int .i64 l[j] :: i64s (l.drop (j + 1))) := by
  rw [hd]; simp only [i64s, List.map_append, List.map_cons]
 rw [h1, hg, List.set_append_right _ _ (by omega), e, Nat.sub_self, List.set_cons_zero, List.take_add_one, List.getElem?_eq_getElem hj]
 simp only [i64s, List.map_append, List.map_cons, List.map_nil, Option.toList_some, List.append_assoc, List.cons_append, List.nil_append]
set_option maxHeartbeats 8000000 in
set_option maxRecDepth 100000 in
theorem take_ints (n : Int) (m : Nat) (x : Vl) (w : World) (B : Nat) (nA : Option Addr) (nc : Nat) (sA : Option Addr) (sc : Nat) (lA : Option Addr) (lc : Nat)
  (hx : IntV x) (ht : x.t = 2) (hB : B ≤ w.heap.size) (vx : VB w B x nA nc sA sc lA lc) (hn : -65536 ≤ n ∧ n ≤ 65536) (hm : n.natAbs = m) :
  Calls Tryz.prog 25 #[.int .i64 n, .agg #[.int .i64 x.t, .slice nA x.n.length nc, .slice sA x.s.length sc, .slice lA x.l.length lc]] w (DoR (.ok (2, ((rowI (min n 0) m).map fun p => remI p (x.n.length : Int)).map (pickI x.n (-9223372036854775808)))) w) := by
 have hq := kindO_int hx
 have hcnt := fun w2 (hg : w.grownBy w2 none) => (count_d x.depth x w2 B nA nc sA sc lA lc (Nat.le_refl _) hx.tot (Nat.le_trans hB hg.size) (vx.gb hg hB)).mono (fun e w' h => (⟨h.1.trans (by rw [hx.count]), h.2⟩ : e = .returned (.int .i64 (x.n.length : Nat)) ∧ w2.grownBy w' none))
 obtain ⟨ps, hps⟩ : ∃ ps, ps = (rowI (min n 0) m).map fun p => remI p (x.n.length : Int) := ⟨_, rfl⟩
 have hpl : ps.length = m := by rw [hps]; simp [rowI_length]
 have hidx := fun w2 (gb : Nat) (hg : w.grownBy w2 none) (hr : Rd w2 w2.heap.size (some ⟨gb, 0, none⟩) (i64s ps)) => index_ints x ps w2 B nA nc sA sc lA lc (some ⟨gb, 0, none⟩) m hx ht (Nat.le_trans hB hg.size) (vx.gb hg hB) hr (by omega)
 obtain ⟨l, hl⟩ : ∃ l, l = rowI (min n 0) m := ⟨_, rfl⟩
 have hll : l.length = m := by rw [hl, rowI_length]
 have hrow := fun w2 => rowG_any (min n 0) (max n 0) m (by omega) (by omega) (by omega) w2
 rw [← hl] at hrow hps
 rw [← hl, ← hps]
 obtain ⟨rl, hrl⟩ : ∃ rl, rl = ps.map (pickI x.n (-9223372036854775808)) := ⟨_, rfl⟩
 rw [hpl, ht] at hidx
 rw [← hrl] at hidx ⊢
 rw [ht] at hq hcnt ⊢
 have HNX := hide hx.n
 have HB2 := hide (show m ≤ 65536 by omega)
 have HROW := hide hrow
 have HIDX := hide hidx
 have HCNT := hide hcnt
 have HPS := hide hps
 have HLL := hide hll
 have h13 : decide (65536 < n) = false := decide_eq_false (by omega)
 have h14 : decide (n < -65536) = false := decide_eq_false (by omega)
 obtain ⟨wa, hwa⟩ : ∃ wa, wa = (w.alloc (.cells #[.int .i64 2, .slice nA x.n.length nc, .slice sA x.s.length sc, .slice lA x.l.length lc] 26)).alloc (.cells #[.int .i64 0, .slice none 0 0, .slice none 0 0, .slice none 0 0] 26) := ⟨_, rfl⟩
 have bx : wa.heap[w.heap.size]? = some (.cells #[.int .i64 2, .slice nA x.n.length nc, .slice sA x.s.length sc, .slice lA x.l.length lc] 26 (0, 0)) := by rw [hwa]; exact (Below.heap_alloc _ _ _ (by rw [World.size_alloc]; omega)).trans (heap_alloc_new w _)
 have bz : wa.heap[w.heap.size + 1]? = some (.cells #[.int .i64 0, .slice none 0 0, .slice none 0 0, .slice none 0 0] 26 (0, 0)) := by rw [hwa]; have := heap_alloc_new (w.alloc (.cells #[.int .i64 2, .slice nA x.n.length nc, .slice sA x.s.length sc, .slice lA x.l.length lc] 26)) (.cells #[.int .i64 0, .slice none 0 0, .slice none 0 0, .slice none 0 0] 26); rwa [World.size_alloc] at this
 have HBX := hide bx
 have HBZ := hide bz
 have HG0 := hide (show w.grownBy wa none by rw [hwa]; exact gb_alloc (gb_alloc (gb_refl w none) _) _)
 have HWE := hide hwa
 have HQ := hide (show (kindO 2 x.s.length x.n.length == 2) = true by rw [hq]; rfl)
 have HGA := hide (gb_refl wa none)
 have HBXA := hide bx
 have HBZA := hide bz
 obtain ⟨c0, c1, c2, c3⟩ : C4 wa w.heap.size 0 (.int .i64 2) (.slice nA x.n.length nc) (.slice sA x.s.length sc) (.slice lA x.l.length lc) := c4k bx
 clear bx bz hwa hx hB vx ht hq hcnt hpl hidx hrow hps hll hl hn hm hrl
 go_enter Tryz.func25, Tryz.ntmps25
 go_wp2_with fail
 rw [← HWE.out]
 go_wp2_with (first
  | (go_at_call 56; refine (isSeq_any _ _ _ _ _ _ _ _ _).mono ?_; rintro e w1 ⟨rfl, hg1⟩; have hqq := HQ.out; have HBXn := hide (blk_keep HBX.out hg1 (by simp)); have HBZn := hide (blk_keep HBZ.out hg1 (by simp)); clear HBX HBZ; have HBX := hide HBXn.out; have HBZ := hide HBZn.out; clear HBXn HBZn; (try clear c0 c1 c2 c3); obtain ⟨c0, c1, c2, c3⟩ : C4 w1 w.heap.size 0 (.int .i64 2) (.slice nA x.n.length nc) (.slice sA x.s.length sc) (.slice lA x.l.length lc) := (by have h := HBX.out; exact c4k h); have HGn := hide (gb_trans HGA.out hg1 (.inl rfl)); clear HGA; have HGA := hide HGn.out; clear HGn hg1)
  | (go_at_call 37; refine (HROW.out _).mono ?_; rintro e w2 ⟨rfl, hg1, ho⟩; have HO := hide ho; have HBXn := hide (blk_keep HBX.out hg1 (by simp)); have HBZn := hide (blk_keep HBZ.out hg1 (by simp)); clear HBX HBZ; have HBX := hide HBXn.out; have HBZ := hide HBZn.out; clear HBXn HBZn; (try clear c0 c1 c2 c3); obtain ⟨c0, c1, c2, c3⟩ : C4 w2 w.heap.size 0 (.int .i64 2) (.slice nA x.n.length nc) (.slice sA x.s.length sc) (.slice lA x.l.length lc) := (by have h := HBX.out; exact c4k h); have HGn := hide (gb_trans HGA.out hg1 (.inl rfl)); have HGB := hide (HGA.out.size); clear HGA; have HGA := hide HGn.out; clear HGn hg1 ho))
 obtain ⟨gb, hgb⟩ : ∃ gb, gb = w1.heap.size := ⟨_, rfl⟩
 rw [← hgb] at HO ⊢
 have HGB2 := hide (show wa.heap.size ≤ gb by rw [hgb]; exact HGB.out)
 have HO1 := hide (own_low HO.out HGB2.out)
 clear hgb HGB HO HROW HQ hqq h13 h14 HWE
 have HBX0 := hide (show wa.heap[w.heap.size]? = some (.cells #[.int .i64 2, .slice nA x.n.length nc, .slice sA x.s.length sc, .slice lA x.l.length lc] 26 (0, 0)) from HBXA.out)
 have HBZ0 := hide (show wa.heap[w.heap.size + 1]? = some (.cells #[.int .i64 0, .slice none 0 0, .slice none 0 0, .slice none 0 0] 26 (0, 0)) from HBZA.out)
 clear HBX HBZ c0 c1 c2 c3
 go_loopw [29] (fun i wr => ∃ j : Nat, i = .int .i64 (j : Int) ∧ j ≤ m ∧ wr.ownsRow wa.heap.size 2 1 (.slice (some ⟨gb, 0, none⟩) m m) m (i64s ((l.take j).map (fun p => remI p (x.n.length : Int)) ++ l.drop j)) ∧ wa.grownBy wr none) (fun i _ => m - (intOf i).toNat)
 case atStart => exact ⟨0, rfl, Nat.zero_le _, by simpa using HO1.out, HGA.out⟩
 case round =>
  obtain ⟨j, rfl, hj, how, hgr⟩ := hrel
  have hbx := blk_keep HBX0.out hgr (by simp)
  obtain ⟨c0, c1, c2, c3⟩ : C4 wr w.heap.size 0 (.int .i64 2) (.slice nA x.n.length nc) (.slice sA x.s.length sc) (.slice lA x.l.length lc) := c4k hbx
  have HGR := hide hgr
  by_cases hlt : j < m
  ·have hlt1 : (j : Int) < (m : Int) := by omega
   have h6 : IntKind.i64.wrap ((j : Int) + 1) = ((j + 1 : Nat) : Int) := by rw [IntKind.wrap_i64]; have := HB2.out; omega
   have HJL := hide (show j < l.length by rw [HLL.out]; exact hlt)
   have HLT := hide hlt
   have c5 := how.cellAt j (by omega)
   rw [mapped_at l _ j HJL.out] at c5
   obtain ⟨p, hp⟩ : ∃ p, p = l.getD j 0 := ⟨_, rfl⟩
   rw [← hp] at c5
   have HP := hide hp
   have HOW := hide how
   have HNUM := hide (show Num64 (x.n.length : Int) from ⟨by omega, by have := HNX.out; omega⟩)
   clear hp how hgr hlt hj hbx
   go_wp2_with (first
    | (go_at_call 58; refine (HCNT.out _ (gb_trans HG0.out HGR.out (.inl rfl))).mono ?_; rintro e w3 ⟨rfl, hg3⟩; have HG3 := hide hg3; have HOW3 := hide (own_up HOW.out hg3); have z5 := HOW3.out.frozenAt j; have c5a := cell_gb c5 hg3; clear hg3)
    | (go_at_call 57; refine (rem_any _ _ HNUM.out _).mono ?_; rintro e w4 ⟨rfl, rfl⟩))
   go_roundw
   case rel =>
    have hlt := HLT.out
    refine ⟨j + 1, by go_num, by omega, ?_, gb_setCell (gb_trans HGR.out HG3.out (.inl rfl)) (.inr HGB2.out) _⟩
    have h1 := (HOW3.out.stored j (.int .i64 (remI p (x.n.length : Int)))).1
    have h2 := mapped_set l (fun p => remI p (x.n.length : Int)) j HJL.out
    rw [← HP.out] at h2
    rw [h2] at h1
    exact h1
   case measure =>
    have hlt := HLT.out
    simp [intOf]
    omega
  ·have hlt1 : ¬ (j : Int) < (m : Int) := by omega
   obtain rfl : j = m := by omega
   have HOW := hide (show wr.ownsRow wa.heap.size 2 1 (.slice (some ⟨gb, 0, none⟩) j j) j (i64s ps) by rw [HPS.out]; rw [List.take_of_length_le (by rw [HLL.out]; exact Nat.le_refl _), List.drop_of_length_le (by rw [HLL.out]; exact Nat.le_refl _), List.append_nil] at how; exact how)
   have HRD := hide (Rd.of_own HOW.out)
   have HGW := hide (gb_trans HG0.out HGR.out (.inl rfl))
   have HBZ1 := hide (blk_keep HBZ0.out HGR.out (by simp))
   clear how hgr hlt1 hbx hlt hj
   go_wp2_with (go_at_call 59; refine (HIDX.out _ gb HGW.out HRD.out).mono ?_; rintro e w5 ⟨hg5, A, c, hlc, rfl, ho⟩; have HG5 := hide hg5; have HLC := hide hlc; have HO5 := hide ho; have hr2 := blk_keep HBZ1.out hg5 (by simp); have HR2 := hide hr2; obtain ⟨z0, z1, z2, z3, y0, y1, y2, y3⟩ := zz4 hr2; clear hg5 hlc ho hr2)
   have hb := put_four HR2.out (.int .i64 2) (.slice A rl.length c) (.slice none 0 0) (.slice none 0 0)
   have m0 : ((((w5.setCell ⟨w.heap.size + 1, 0, none⟩ (.int .i64 2)).setCell ⟨w.heap.size + 1, 1, none⟩ (.slice A rl.length c)).setCell ⟨w.heap.size + 1, 2, none⟩ (.slice none 0 0)).setCell ⟨w.heap.size + 1, 3, none⟩ (.slice none 0 0)).cell? ⟨w.heap.size + 1, 0, none⟩ = some (.int .i64 2) := (blk_cell hb 0).trans rfl
   have m1 : ((((w5.setCell ⟨w.heap.size + 1, 0, none⟩ (.int .i64 2)).setCell ⟨w.heap.size + 1, 1, none⟩ (.slice A rl.length c)).setCell ⟨w.heap.size + 1, 2, none⟩ (.slice none 0 0)).setCell ⟨w.heap.size + 1, 3, none⟩ (.slice none 0 0)).cell? ⟨w.heap.size + 1, 1, none⟩ = some (.slice A rl.length c) := (blk_cell hb 1).trans rfl
   have m2 : ((((w5.setCell ⟨w.heap.size + 1, 0, none⟩ (.int .i64 2)).setCell ⟨w.heap.size + 1, 1, none⟩ (.slice A rl.length c)).setCell ⟨w.heap.size + 1, 2, none⟩ (.slice none 0 0)).setCell ⟨w.heap.size + 1, 3, none⟩ (.slice none 0 0)).cell? ⟨w.heap.size + 1, 2, none⟩ = some (.slice none 0 0) := (blk_cell hb 2).trans rfl
   have m3 : ((((w5.setCell ⟨w.heap.size + 1, 0, none⟩ (.int .i64 2)).setCell ⟨w.heap.size + 1, 1, none⟩ (.slice A rl.length c)).setCell ⟨w.heap.size + 1, 2, none⟩ (.slice none 0 0)).setCell ⟨w.heap.size + 1, 3, none⟩ (.slice none 0 0)).cell? ⟨w.heap.size + 1, 3, none⟩ = some (.slice none 0 0) := (blk_cell hb 3).trans rfl
   have hon := own_low (HO5.out.kept (put_four_row w5 (w.heap.size + 1) (.int .i64 2) (.slice A rl.length c) (.slice none 0 0) (.slice none 0 0)) (.inr (own_ne HO5.out HR2.out (by decide)))) HGW.out.size
   exact bodyPost_ret (v := .tuple #[.agg #[.int .i64 2, .slice A rl.length c, .slice none 0 0, .slice none 0 0], .int .i64 0]) (by simp [results, Tryz.results25, go_sem, m0, m1, m2, m3]) rfl ⟨put_four_gb (gb_trans HGW.out HG5.out (.inl rfl)) (Nat.le_add_right _ 1) _ _ _ _, A, c, HLC.out, rfl, hon⟩
end Go.Proofs.YtbmgodmfpoappaaGreat
