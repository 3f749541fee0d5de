/-
  Check says yes.
-/
import Derived.Test.YtniliccobkhnlaaWa
namespace Go.Proofs.Ytniliccobkhnlaa
open Go.RowKit
attribute [local go_sem ↓] Go.wp_at_zero Go.wp_at_succ

/-- A value in which nothing is wrong, d deep at most. -/
def GoodV : Nat → Vl → Prop
  | 0, _ => False
  | d + 1, v => named v = true ∧ manyV v = false ∧ tooLongV v = false ∧ FormedYes v ∧ levelV v = true ∧ ∀ x ∈ v.l, GoodV d x

set_option maxHeartbeats 8000000 in
set_option maxRecDepth 100000 in
theorem fault_good (d : Nat) : ∀ (v : Vl) (w : World) (B : Nat) (nA : Option Addr) (nc : Nat) (sA : Option Addr) (sc : Nat) (lA : Option Addr) (lc : Nat), GoodV d v → v.tot ≤ 1100000 → B ≤ w.heap.size → VB w B v nA nc sA sc lA lc →
    Calls Try.prog 68 #[.agg #[.int .i64 v.t, .slice nA v.n.length nc, .slice sA v.s.length sc, .slice lA v.l.length lc]] w fun e w' => e = .returned (.int .i64 0) ∧ w.grownBy w' none := by
  induction d with
  | zero => intro v _ _ _ _ _ _ _ _ hgd; cases hgd
  | succ d ih =>
    intro v w B nA nc sA sc lA lc hgd ht hB h
    obtain ⟨g1, g2, g3, g4, g5, g6⟩ := hgd
    obtain ⟨l1, l2, l3, l4⟩ := Vl.lens v ht
    obtain ⟨wa, hwa⟩ : ∃ wa, wa = w.alloc (.cells #[.int .i64 v.t, .slice nA v.n.length nc, .slice sA v.s.length sc, .slice lA v.l.length lc] 26) := ⟨_, rfl⟩
    have hg : w.grownBy wa none := by rw [hwa]; exact gb_alloc (gb_refl w none) _
    have hc := C4.box w (.int .i64 v.t) (.slice nA v.n.length nc) (.slice sA v.s.length sc) (.slice lA v.l.length lc) 26
    rw [← hwa] at hc
    have b0 : wa.cell? ⟨w.heap.size, 0, none⟩ = some (.int .i64 v.t) := hc.c0
    have b1 : wa.cell? ⟨w.heap.size, 1, none⟩ = some (.slice nA v.n.length nc) := hc.c1
    have b2 : wa.cell? ⟨w.heap.size, 2, none⟩ = some (.slice sA v.s.length sc) := hc.c2
    have b3 : wa.cell? ⟨w.heap.size, 3, none⟩ = some (.slice lA v.l.length lc) := hc.c3
    have hbw := Nat.le_trans hB hg.size
    have HV := hide (h.gb hg hB)
    have HBW := hide hbw
    have HG := hide hg
    have HWE := hide hwa
    have FIN := hide (show w.grownBy (w.alloc (.cells #[.int .i64 v.t, .slice nA v.n.length nc, .slice sA v.s.length sc, .slice lA v.l.length lc] 26)) none from gb_alloc (gb_refl w none) _)
    have HOWN := hide (own_good v wa B nA nc sA sc lA lc g1 g2 g3 g4 g5 ht hbw (h.gb hg hB))
    have IH := hide ih
    have HSUB := hide g6
    have HTT := hide ht
    clear ih ht hB h hg hwa hc hbw g1 g2 g3 g4 g5 g6
    go_enter Try.func68, Try.ntmps68
    go_wp2_with fail
    rw [← HWE.out]
    refine HOWN.out.mono ?_
    rintro e w1 ⟨rfl, hg1⟩
    have b3 := cell_gb b3 hg1
    have HG1 := hide hg1
    clear hg1
    go_wp2_with fail
    go_loopw [15] (fun i wr => ∃ j : Nat, i = .int .i64 (j : Int) ∧ j ≤ v.l.length ∧ wa.grownBy wr none) (fun i _ => v.l.length - (intOf i).toNat)
    case atStart => exact ⟨0, rfl, Nat.zero_le _, HG1.out⟩
    case round =>
      obtain ⟨j, rfl, hj, hgr⟩ := hrel
      by_cases hlt : j < v.l.length
      · have hlt1 : (j : Int) < (v.l.length : Int) := by omega
        obtain ⟨q, o, xA, xc, yA, yc, zA, zc, rfl, hqB, hc4, hvb⟩ := HV.out.l.at_ hlt
        obtain ⟨d0, d1, d2, d3⟩ := hc4.gb hgr
        have hga : wr.grownBy (wr.alloc (.cells #[.int .i64 v.l[j].t, .slice xA v.l[j].n.length xc, .slice yA v.l[j].s.length yc, .slice zA v.l[j].l.length zc] 26)) none := gb_alloc (gb_refl wr none) _
        have hgw := gb_trans hgr hga (.inl rfl)
        have HREC := hide (IH.out v.l[j] _ B xA xc yA yc zA zc (HSUB.out _ (List.getElem_mem hlt)) (Vl.tot_part HTT.out (List.getElem_mem hlt)) (Nat.le_trans HBW.out hgw.size) (hvb.gb hgw HBW.out))
        have HGW := hide hgw
        clear hc4 hvb hgr hga hgw
        go_wp2_with (go_at_call 68; refine HREC.out.mono ?_; rintro e w2 ⟨rfl, hg2⟩; have HG2 := hide hg2; clear hg2)
        go_roundw
        case rel => exact ⟨j + 1, by go_num, by omega, gb_trans HGW.out HG2.out (.inl rfl)⟩
        case measure => simp [intOf]; omega
      · have hlt1 : ¬ (j : Int) < (v.l.length : Int) := by omega
        have HGR := hide hgr
        clear hgr
        go_wp2_with fail
        go_ret
        exact ⟨rfl, gb_trans HG.out HGR.out (.inl rfl)⟩
set_option maxHeartbeats 8000000 in
set_option maxRecDepth 100000 in
theorem check_good (d : Nat) (v : Vl) (w : World) (B : Nat) (nA : Option Addr) (nc : Nat) (sA : Option Addr) (sc : Nat) (lA : Option Addr) (lc : Nat) (hgd : GoodV d v) (hd : v.depth ≤ 32) (ht : v.tot ≤ 1100000) (hB : B ≤ w.heap.size) (h : VB w B v nA nc sA sc lA lc) :
    Calls Try.prog 33 #[.agg #[.int .i64 v.t, .slice nA v.n.length nc, .slice sA v.s.length sc, .slice lA v.l.length lc]] w fun e w' => e = .returned (.int .i64 0) ∧ w.grownBy w' none := by
  obtain ⟨l1, l2, l3, l4⟩ := Vl.lens v ht
  obtain ⟨wa, hwa⟩ : ∃ wa, wa = w.alloc (.cells #[.int .i64 v.t, .slice nA v.n.length nc, .slice sA v.s.length sc, .slice lA v.l.length lc] 26) := ⟨_, rfl⟩
  have hg : w.grownBy wa none := by rw [hwa]; exact gb_alloc (gb_refl w none) _
  have hc := C4.box w (.int .i64 v.t) (.slice nA v.n.length nc) (.slice sA v.s.length sc) (.slice lA v.l.length lc) 26
  rw [← hwa] at hc
  have b0 : wa.cell? ⟨w.heap.size, 0, none⟩ = some (.int .i64 v.t) := hc.c0
  have b1 : wa.cell? ⟨w.heap.size, 1, none⟩ = some (.slice nA v.n.length nc) := hc.c1
  have b2 : wa.cell? ⟨w.heap.size, 2, none⟩ = some (.slice sA v.s.length sc) := hc.c2
  have b3 : wa.cell? ⟨w.heap.size, 3, none⟩ = some (.slice lA v.l.length lc) := hc.c3
  have hbw := Nat.le_trans hB hg.size
  have HV := hide (h.gb hg hB)
  have HBW := hide hbw
  have HG := hide hg
  have HWE := hide hwa
  have FIN := hide (show w.grownBy (w.alloc (.cells #[.int .i64 v.t, .slice nA v.n.length nc, .slice sA v.s.length sc, .slice lA v.l.length lc] 26)) none from gb_alloc (gb_refl w none) _)
  have HF := hide (fault_good d v wa B nA nc sA sc lA lc hgd ht hbw (h.gb hg hB))
  have HDP := hide (fun w2 (k : wa.grownBy w2 none) => depth_any v w2 B nA nc sA sc lA lc ht (Nat.le_trans hbw k.size) ((h.gb hg hB).gb k hbw))
  have hd1 : ¬ (32 : Int) < (v.depth : Nat) := by omega
  clear ht hB h hg hwa hc hbw hgd hd
  generalize v.depth = k at *
  go_enter Try.func33, Try.ntmps33
  go_wp2_with (first
    | (go_at_call 68; rw [← HWE.out]; refine HF.out.mono ?_; rintro e w1 ⟨rfl, hg1⟩; have b0 := cell_gb b0 hg1; have b1 := cell_gb b1 hg1; have b2 := cell_gb b2 hg1; have b3 := cell_gb b3 hg1; have HG1 := hide hg1; clear hg1)
    | (go_at_call 23; refine (HDP.out w1 HG1.out).mono ?_; rintro e w2 ⟨rfl, hg2⟩; have HG2 := hide (gb_trans HG1.out hg2 (.inl rfl)); clear hg2))
  go_ret
  exact ⟨rfl, gb_trans HG.out HG2.out (.inl rfl)⟩

/-! ## ranks, and what is ahead of another rank -/

def rankT (t : Int) : Int := if t = 101 then 0 else if t = 1 ∨ t = -1 then 1 else if t = 2 ∨ t = -2 then 2 else if t = 4 ∨ t = -4 then 3 else if t = 5 ∨ t = -5 then 4 else if t = 3 ∨ t = -3 then 5 else if t = 0 then 6 else if t = 99 then 7 else if t = 98 then 8 else 9
set_option maxHeartbeats 4000000 in
theorem rank2_any (w : World) : Calls Try.prog 59 #[.int .i64 2] w fun e w' => e = .returned (.int .i64 2) ∧ w = w' := by
  go_enter Try.func59, Try.ntmps59
  go_wp2_with fail
  go_ret
  exact ⟨rfl, rfl⟩
set_option maxHeartbeats 4000000 in
theorem rank98_any (w : World) : Calls Try.prog 59 #[.int .i64 98] w fun e w' => e = .returned (.int .i64 8) ∧ w = w' := by
  go_enter Try.func59, Try.ntmps59
  go_wp2_with fail
  go_ret
  exact ⟨rfl, rfl⟩
def cmpI (a b : Int) : Int := if a < b then -1 else if b < a then 1 else 0
set_option maxHeartbeats 4000000 in
theorem nan_any (a : Int) (w : World) : Calls Try.prog 79 #[.int .i64 a] w fun e w' => e = .returned (.bool false) ∧ w = w' := by
  have e1 : (a != a) = false := int_bne_t rfl
  go_enter Try.func79, Try.ntmps79
  go_wp2_with fail
  go_ret
  exact ⟨by simp, rfl⟩
set_option maxHeartbeats 4000000 in
theorem cmpI_any (a b : Int) (w : World) : Calls Try.prog 58 #[.int .i64 a, .int .i64 b] w fun e w' => e = .returned (.int .i64 (cmpI a b)) ∧ w = w' := by
  have HN := hide (fun x w => nan_any x w)
  by_cases h1 : a < b
  · have HC := hide (show cmpI a b = -1 by unfold cmpI; rw [if_pos h1])
    rw [HC.out]
    go_enter Try.func58, Try.ntmps58
    go_wp2_with (go_at_call 79; refine (HN.out _ _).mono ?_; rintro e w1 ⟨rfl, rfl⟩)
    go_ret
    exact ⟨rfl, rfl⟩
  · by_cases h2 : b < a
    · have HC := hide (show cmpI a b = 1 by unfold cmpI; rw [if_neg h1, if_pos h2])
      rw [HC.out]
      have h1' : b ≤ a := by omega
      go_enter Try.func58, Try.ntmps58
      go_wp2_with (go_at_call 79; refine (HN.out _ _).mono ?_; rintro e w1 ⟨rfl, rfl⟩)
      go_ret
      exact ⟨rfl, rfl⟩
    · have HC := hide (show cmpI a b = 0 by unfold cmpI; rw [if_neg h1, if_neg h2])
      rw [HC.out]
      have h1' : b ≤ a := by omega
      have h2' : a ≤ b := by omega
      go_enter Try.func58, Try.ntmps58
      go_wp2_with (go_at_call 79; refine (HN.out _ _).mono ?_; rintro e w1 ⟨rfl, rfl⟩)
      go_ret
      exact ⟨rfl, rfl⟩
end Go.Proofs.Ytniliccobkhnlaa
