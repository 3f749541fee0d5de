/-
  Small questions of a value, the program's and the document's: Size, Type, Numeric, Keyed, IsNull.
-/
import Derived.Test.YtnilcnobngcbgaaGreatVy
import Derived.Test.YtnilcnobngcbgaaGreatWi
import Derived.Test.YtnilcnobngcbgaaGreatVu
namespace Go.Proofs.YtnilcnobngcbgaaGreat
open Go.RowKit
attribute [local go_sem ↓] Go.wp_at_zero Go.wp_at_succ

theorem Vl.sizes_le_tots : ∀ l : List Vl, Vl.sizes l ≤ Vl.tots l
  | [] => by simp [Vl.sizes]
  | .mk t n s l :: r => by
    have h1 := Vl.sizes_le_tots l
    have h2 := Vl.sizes_le_tots r
    simp only [Vl.sizes, Vl.tots, Vl.size, Vl.tot]
    omega

set_option maxHeartbeats 8000000 in
set_option maxRecDepth 100000 in
theorem rSize_d (d : Nat) : ∀ (v : Vl) (w : World) (B : Nat) (nA : Option Addr) (nc : Nat) (sA : Option Addr) (sc : Nat) (lA : Option Addr) (lc : Nat), v.depth ≤ d → v.tot ≤ 1100000 → B ≤ w.heap.size → VB w B v nA nc sA sc lA lc →
    Calls Tryz.prog 8 #[.agg #[.int .i64 v.t, .slice nA v.n.length nc, .slice sA v.s.length sc, .slice lA v.l.length lc]] w fun e w' => e = .returned (.int .i64 (v.size : Nat)) ∧ w.grownBy w' none := by
  induction d with
  | zero => intro v; intros; rw [Vl.depth_def] at *; omega
  | succ d ih =>
    intro v w B nA nc sA sc lA lc hd ht hB h
    obtain ⟨l1, l2, l3, l4⟩ := Vl.lens v ht
    obtain ⟨wa, hwa⟩ : ∃ wa, wa = w.alloc (.cells #[.int .i64 v.t, .slice nA v.n.length nc, .slice sA v.s.length sc, .slice lA v.l.length lc] 26) := ⟨_, rfl⟩
    have hg : w.grownBy wa none := by rw [hwa]; exact gb_alloc (gb_refl w none) _
    have hc := C4.box w (.int .i64 v.t) (.slice nA v.n.length nc) (.slice sA v.s.length sc) (.slice lA v.l.length lc) 26
    rw [← hwa] at hc
    have b0 : wa.cell? ⟨w.heap.size, 0, none⟩ = some (.int .i64 v.t) := hc.c0
    have b1 : wa.cell? ⟨w.heap.size, 1, none⟩ = some (.slice nA v.n.length nc) := hc.c1
    have b2 : wa.cell? ⟨w.heap.size, 2, none⟩ = some (.slice sA v.s.length sc) := hc.c2
    have b3 : wa.cell? ⟨w.heap.size, 3, none⟩ = some (.slice lA v.l.length lc) := hc.c3
    have hbw := Nat.le_trans hB hg.size
    have HV := hide (h.gb hg hB)
    have HBW := hide hbw
    have HG := hide hg
    have HWE := hide hwa
    have IH := hide ih
    have HDD := hide hd
    have HTT := hide ht
    have HDEF := hide (Vl.size_def v)
    have hst : v.n.length + v.s.length + Vl.tots v.l ≤ 1100000 := by
      have := Vl.tot_def v
      omega
    have hdl : ∀ j, v.n.length + v.s.length + Vl.sizes (v.l.take j) ≤ 1100000 := fun j => by
      have h1 := Vl.sizes_le_tots (v.l.take j)
      have h2 := Vl.tots_take_le v.l j
      omega
    have HDL := hide hdl
    clear ih hd ht hB h hg hwa hc hbw hdl hst
    go_enter Tryz.func8, Tryz.ntmps8
    go_wp2_with fail
    rw [← HWE.out]
    go_loopw [3, 4] (fun n i wr => ∃ (j y : Nat), i = .int .i64 (j : Int) ∧ j ≤ v.l.length ∧ Hid (y = v.n.length + v.s.length + Vl.sizes (v.l.take j)) ∧ n = .int .i64 (1 + (y : Int)) ∧ wa.grownBy wr none) (fun _ i _ => v.l.length - (intOf i).toNat)
    case atStart => exact ⟨0, _, rfl, Nat.zero_le _, hide rfl, by simp [Vl.sizes]; omega, gb_refl wa none⟩
    case round =>
      obtain ⟨j, y, rfl, hj, HY, rfl, hgr⟩ := hrel
      by_cases hlt : j < v.l.length
      · have hlt1 : (j : Int) < (v.l.length : Int) := by omega
        obtain ⟨q, o, xA, xc, yA, yc, zA, zc, rfl, hqB, hc4, hvb⟩ := HV.out.l.at_ hlt
        obtain ⟨d0, d1, d2, d3⟩ := hc4.gb hgr
        have hgw := hgr
        have b3 := cell_gb b3 hgr
        have HREC := hide (IH.out v.l[j] wr B xA xc yA yc zA zc (Vl.depth_part HDD.out (List.getElem_mem hlt)) (Vl.tot_part HTT.out (List.getElem_mem hlt)) (Nat.le_trans HBW.out hgw.size) (hvb.gb hgw HBW.out))
        have HGW := hide hgw
        have hdx := HDL.out (j + 1)
        rw [Vl.sizes_take v.l j hlt] at hdx
        have hyb := HY.out
        have HYN := hide (show y + v.l[j].size = v.n.length + v.s.length + Vl.sizes (v.l.take (j + 1)) by rw [Vl.sizes_take v.l j hlt, hyb]; omega)
        have hx : v.l[j].size ≤ 1100000 := by omega
        have hy : y ≤ 1100000 := by omega
        clear hc4 hvb hgr hgw hdx hyb
        generalize v.l[j].size = x at *
        go_wp2_with (go_at_call 8; refine HREC.out.mono ?_; rintro e w1 ⟨rfl, hg1⟩; have HG1 := hide hg1; clear hg1)
        go_roundw
        case rel => exact ⟨j + 1, y + x, by go_num, by omega, hide HYN.out, by rw [show (1 + (y : Int) + (x : Int)) = 1 + ((y + x : Nat) : Int) by omega], gb_trans HGW.out HG1.out (.inl rfl)⟩
        case measure => simp [intOf]; omega
      · have hlt1 : ¬ (j : Int) < (v.l.length : Int) := by omega
        have HTE := hide (show v.l.take j = v.l from List.take_of_length_le (by omega))
        have HGR := hide hgr
        have b3 := cell_gb b3 hgr
        have hy : y ≤ 1100000 := by have := HDL.out j; have := HY.out; omega
        have HR : Hid (1 + (y : Int) = (v.size : Nat)) := hide (by rw [HDEF.out, HY.out, HTE.out]; omega)
        clear hgr
        go_wp2_with fail
        go_ret
        exact ⟨ret_i HR.out, gb_trans HG.out HGR.out (.inl rfl)⟩
theorem rSize_any (v : Vl) (w : World) (B : Nat) (nA : Option Addr) (nc : Nat) (sA : Option Addr) (sc : Nat) (lA : Option Addr) (lc : Nat) (ht : v.tot ≤ 1100000) (hB : B ≤ w.heap.size) (h : VB w B v nA nc sA sc lA lc) :
    Calls Tryz.prog 8 #[.agg #[.int .i64 v.t, .slice nA v.n.length nc, .slice sA v.s.length sc, .slice lA v.l.length lc]] w fun e w' => e = .returned (.int .i64 (v.size : Nat)) ∧ w.grownBy w' none := rSize_d v.depth v w B nA nc sA sc lA lc (Nat.le_refl _) ht hB h

theorem vNum_any (t : Int) (c1 c2 c3 : Value) (w : World) : Calls Tryz.prog 81 #[.agg #[.int .i64 t, c1, c2, c3]] w fun e w' => e = .returned (.bool (hasN t)) ∧ w.grownBy w' none := by
  obtain ⟨wa, hwa⟩ : ∃ wa, wa = w.alloc (.cells #[.int .i64 t, c1, c2, c3] 26) := ⟨_, rfl⟩
  have hc := (C4.box w (.int .i64 t) c1 c2 c3 26).c0
  rw [← hwa] at hc
  have HG := hide (show w.grownBy wa none by rw [hwa]; exact gb_alloc (gb_refl w none) _)
  have HN := hide (hasN_any t)
  have HWE := hide hwa
  clear hwa
  go_enter Tryz.func81, Tryz.ntmps81
  go_wp2_with (go_at_call 64; refine (HN.out _).mono ?_; rintro e w1 ⟨rfl, rfl⟩)
  go_ret
  exact ⟨rfl, by have := HG.out; rwa [HWE.out] at this⟩
theorem num_same (t : Int) : ((rAtom t || rVec t) && decide (rAbs t ≠ 3)) = hasN t := by
  by_cases h : -5 ≤ t ∧ t ≤ 5
  · have : t = -5 ∨ t = -4 ∨ t = -3 ∨ t = -2 ∨ t = -1 ∨ t = 0 ∨ t = 1 ∨ t = 2 ∨ t = 3 ∨ t = 4 ∨ t = 5 := by omega
    rcases this with rfl | rfl | rfl | rfl | rfl | rfl | rfl | rfl | rfl | rfl | rfl <;> rfl
  · have e : hasN t = false := by
      unfold hasN
      simp
      omega
    have e1 : rAtom t = false := by unfold rAtom; simp; omega
    have e2 : rVec t = false := by unfold rVec; simp; omega
    rw [e, e1, e2]
    rfl
end Go.Proofs.YtnilcnobngcbgaaGreat
