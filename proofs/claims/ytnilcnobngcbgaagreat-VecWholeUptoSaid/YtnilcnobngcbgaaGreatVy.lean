/-
  What is named; too many; too long; depth.
-/
import Derived.Test.YtnilcnobngcbgaaGreatVw

namespace Go.Proofs.YtnilcnobngcbgaaGreat
open Go.RowKit
attribute [local go_sem ↓] Go.wp_at_zero Go.wp_at_succ

/-- Has a value nothing but what its type names? -/
def named (v : Vl) : Bool :=
  let a := (v.n.length : Int) == 0
  let b := (v.s.length : Int) == 0
  let c := (v.l.length : Int) == 0
  if v.t = 0 ∨ v.t = 99 then a && b else if v.t = 98 then a else if v.t = 100 then a && c else if v.t = 101 then a && b && c else hasN v.t && b && c || hasS v.t && a && c

end Go.Proofs.YtnilcnobngcbgaaGreat

/- Too many, too long, level, depth. -/
namespace Go.Proofs.YtnilcnobngcbgaaGreat
open Go.RowKit
attribute [local go_sem ↓] Go.wp_at_zero Go.wp_at_succ

def manyV (v : Vl) : Bool := if v.t = 98 then decide (64 < v.s.length) || decide (64 < v.l.length) else isSeq v && decide (65536 < v.count)
def tooLongV (v : Vl) : Bool := v.s.any (longS (if v.t = 100 then 65536 else 64))
/-! ## level -/

def lvl (m : Int) (v : Vl) : Bool := (v.count : Int) == m
def levelV (v : Vl) : Bool := if v.t = 98 ∨ v.t = 99 then v.l.all (lvl v.count) else true
mutual
theorem Vl.depth_le_tot : ∀ v : Vl, v.depth ≤ v.tot
  | .mk t n s l => by
    have := Vl.depths_le_tots l
    simp only [Vl.depth, Vl.tot]
    omega
theorem Vl.depths_le_tots : ∀ l : List Vl, Vl.depths l ≤ Vl.tots l
  | [] => by simp [Vl.depths]
  | x :: r => by
    have h1 := Vl.depth_le_tot x
    have h2 := Vl.depths_le_tots r
    simp only [Vl.depths, Vl.tots]
    omega
end
set_option maxHeartbeats 8000000 in
set_option maxRecDepth 100000 in
theorem depth_d (d : Nat) : ∀ (v : Vl) (w : World) (B : Nat) (nA : Option Addr) (nc : Nat) (sA : Option Addr) (sc : Nat) (lA : Option Addr) (lc : Nat), v.depth ≤ d → v.tot ≤ 1100000 → B ≤ w.heap.size → VB w B v nA nc sA sc lA lc →
    Calls Tryz.prog 55 #[.agg #[.int .i64 v.t, .slice nA v.n.length nc, .slice sA v.s.length sc, .slice lA v.l.length lc]] w fun e w' => e = .returned (.int .i64 (v.depth : Nat)) ∧ w.grownBy w' none := by
  induction d with
  | zero => intro v; intros; rw [Vl.depth_def] at *; omega
  | succ d ih =>
    intro v w B nA nc sA sc lA lc hd ht hB h
    obtain ⟨l1, l2, l3, l4⟩ := Vl.lens v ht
    obtain ⟨wa, hwa⟩ : ∃ wa, wa = w.alloc (.cells #[.int .i64 v.t, .slice nA v.n.length nc, .slice sA v.s.length sc, .slice lA v.l.length lc] 26) := ⟨_, rfl⟩
    have hg : w.grownBy wa none := by rw [hwa]; exact gb_alloc (gb_refl w none) _
    have hc := C4.box w (.int .i64 v.t) (.slice nA v.n.length nc) (.slice sA v.s.length sc) (.slice lA v.l.length lc) 26
    rw [← hwa] at hc
    have b0 : wa.cell? ⟨w.heap.size, 0, none⟩ = some (.int .i64 v.t) := hc.c0
    have b1 : wa.cell? ⟨w.heap.size, 1, none⟩ = some (.slice nA v.n.length nc) := hc.c1
    have b2 : wa.cell? ⟨w.heap.size, 2, none⟩ = some (.slice sA v.s.length sc) := hc.c2
    have b3 : wa.cell? ⟨w.heap.size, 3, none⟩ = some (.slice lA v.l.length lc) := hc.c3
    have hbw := Nat.le_trans hB hg.size
    have HV := hide (h.gb hg hB)
    have HBW := hide hbw
    have HG := hide hg
    have HWE := hide hwa
    have FIN := hide (show w.grownBy (w.alloc (.cells #[.int .i64 v.t, .slice nA v.n.length nc, .slice sA v.s.length sc, .slice lA v.l.length lc] 26)) none from gb_alloc (gb_refl w none) _)
    have IH := hide ih
    have HDD := hide hd
    have HTT := hide ht
    have HDEF := hide (Vl.depth_def v)
    have hdl : ∀ j, Vl.depths (v.l.take j) ≤ 1100000 := fun j => by
      have h1 := Vl.depths_le_tots (v.l.take j)
      have h2 := Vl.tots_take_le v.l j
      omega
    have HDL := hide hdl
    clear ih hd ht hB h hg hwa hc hbw hdl
    go_enter Tryz.func55, Tryz.ntmps55
    go_wp2_with fail
    rw [← HWE.out]
    go_loopw [3, 9] (fun n i wr => ∃ j : Nat, i = .int .i64 (j : Int) ∧ j ≤ v.l.length ∧ n = .int .i64 (Vl.depths (v.l.take j) : Nat) ∧ wa.grownBy wr none) (fun _ i _ => v.l.length - (intOf i).toNat)
    case atStart => exact ⟨0, rfl, Nat.zero_le _, rfl, gb_refl wa none⟩
    case round =>
      obtain ⟨j, rfl, hj, rfl, hgr⟩ := hrel
      by_cases hlt : j < v.l.length
      · have hlt1 : (j : Int) < (v.l.length : Int) := by omega
        obtain ⟨q, o, xA, xc, yA, yc, zA, zc, rfl, hqB, hc4, hvb⟩ := HV.out.l.at_ hlt
        obtain ⟨d0, d1, d2, d3⟩ := hc4.gb hgr
        have hga : wr.grownBy (wr.alloc (.cells #[.int .i64 v.l[j].t, .slice xA v.l[j].n.length xc, .slice yA v.l[j].s.length yc, .slice zA v.l[j].l.length zc] 26)) none := gb_alloc (gb_refl wr none) _
        have hgw := gb_trans hgr hga (.inl rfl)
        have HREC := hide (IH.out v.l[j] _ B xA xc yA yc zA zc (Vl.depth_part HDD.out (List.getElem_mem hlt)) (Vl.tot_part HTT.out (List.getElem_mem hlt)) (Nat.le_trans HBW.out hgw.size) (hvb.gb hgw HBW.out))
        have HGW := hide hgw
        have HTK := hide (Vl.depths_take v.l j hlt)
        have hdb := HDL.out j
        have hdx : v.l[j].depth ≤ 1100000 := by have := HDL.out (j + 1); rw [HTK.out] at this; omega
        clear hc4 hvb hgr hga hgw
        generalize v.l[j].depth = x at *
        generalize Vl.depths (v.l.take j) = y at *
        by_cases hxy : x ≤ y
        · have hm : max (y : Int) (x : Int) = (y : Int) := by omega
          have HM := hide (show max y x = y by omega)
          clear hxy
          go_wp2_with (go_at_call 55; refine HREC.out.mono ?_; rintro e w1 ⟨rfl, hg1⟩; have HG1 := hide hg1; clear hg1)
          go_roundw
          case rel => exact ⟨j + 1, by go_num, by omega, by rw [HTK.out, HM.out], gb_trans HGW.out HG1.out (.inl rfl)⟩
          case measure => simp [intOf]; omega
        · have hm : max (y : Int) (x : Int) = (x : Int) := by omega
          have HM := hide (show max y x = x by omega)
          clear hxy
          go_wp2_with (go_at_call 55; refine HREC.out.mono ?_; rintro e w1 ⟨rfl, hg1⟩; have HG1 := hide hg1; clear hg1)
          go_roundw
          case rel => exact ⟨j + 1, by go_num, by omega, by rw [HTK.out, HM.out], gb_trans HGW.out HG1.out (.inl rfl)⟩
          case measure => simp [intOf]; omega
      · have hlt1 : ¬ (j : Int) < (v.l.length : Int) := by omega
        have HTE := hide (show v.l.take j = v.l from List.take_of_length_le (by omega))
        have hdb := HDL.out j
        rw [HTE.out] at hdb ⊢
        have HGR := hide hgr
        have HR : Hid (1 + (Vl.depths v.l : Int) = (v.depth : Nat)) := hide (by rw [HDEF.out]; omega)
        clear hgr
        generalize Vl.depths v.l = y at *
        go_wp2_with fail
        go_ret
        exact ⟨ret_i HR.out, gb_trans HG.out HGR.out (.inl rfl)⟩
theorem depth_any (v : Vl) (w : World) (B : Nat) (nA : Option Addr) (nc : Nat) (sA : Option Addr) (sc : Nat) (lA : Option Addr) (lc : Nat) (ht : v.tot ≤ 1100000) (hB : B ≤ w.heap.size) (h : VB w B v nA nc sA sc lA lc) :
    Calls Tryz.prog 55 #[.agg #[.int .i64 v.t, .slice nA v.n.length nc, .slice sA v.s.length sc, .slice lA v.l.length lc]] w fun e w' => e = .returned (.int .i64 (v.depth : Nat)) ∧ w.grownBy w' none := depth_d v.depth v w B nA nc sA sc lA lc (Nat.le_refl _) ht hB h
end Go.Proofs.YtnilcnobngcbgaaGreat
