/-
  Types, ranks, counts.
-/
import Derived.Test.YtnilcnobngcbgaaGreatVg
import Derived.Test.YtnilcnobngcbgaaGreatVd
namespace Go.Proofs.YtnilcnobngcbgaaGreat
open Go.RowKit
attribute [local go_sem ↓] Go.wp_at_zero Go.wp_at_succ

theorem vClone_any (v : Vl) (w : World) (B : Nat) (nA : Option Addr) (nc : Nat) (sA : Option Addr) (sc : Nat) (lA : Option Addr) (lc : Nat) (ht : v.tot ≤ 1100000) (hB : B ≤ w.heap.size) (h : VB w B v nA nc sA sc lA lc) :
    Calls Tryz.prog 96 #[.agg #[.int .i64 v.t, .slice nA v.n.length nc, .slice sA v.s.length sc, .slice lA v.l.length lc]] w (NewV v w) := vClone_d v.depth v w B nA nc sA sc lA lc (Nat.le_refl _) ht hB h
theorem cloneAll_any (l : List Vl) (w : World) (B : Nat) (A : Option Addr) (c : Nat) (ht : Vl.tots l ≤ 1100000) (hB : B ≤ w.heap.size) (h : RdV w B A l) :
    Calls Tryz.prog 63 #[.slice A l.length c] w (NewL l w) := cloneAll_of (vClone_d (Vl.depths l)) l w B A c (fun x hx => by
      have := Vl.depth_lt (v := .mk 0 [] [] l) (x := x) hx
      rw [Vl.depth_def (.mk 0 [] [] l)] at this
      simp only [Vl.l] at this
      omega) ht hB h

/-- Has a type numbers? -/
def hasN (t : Int) : Bool := t == 1 || t == 2 || t == 4 || t == 5 || t == -1 || t == -2 || t == -4 || t == -5
def hasS (t : Int) : Bool := t == 3 || t == -3
def atomT (t : Int) : Bool := decide (t < 0) && (hasN t || hasS t)

set_option maxHeartbeats 4000000 in
theorem hasN_any (t : Int) (w : World) : Calls Tryz.prog 64 #[.int .i64 t] w fun e w' => e = .returned (.bool (hasN t)) ∧ w = w' := by
  by_cases c : hasN t = true
  · rw [c]
    unfold hasN at c
    simp only [Bool.or_eq_true, beq_iff_eq] at c
    rcases c with (((((((rfl | rfl) | rfl) | rfl) | rfl) | rfl) | rfl) | rfl) <;>
    · go_enter Tryz.func64, Tryz.ntmps64
      go_wp2_with fail
      go_ret
      exact ⟨rfl, rfl⟩
  · have c' : hasN t = false := by simpa using c
    rw [c']
    unfold hasN at c'
    simp only [Bool.or_eq_false_iff] at c'
    obtain ⟨⟨⟨⟨⟨⟨⟨c1, c2⟩, c3⟩, c4⟩, c5⟩, c6⟩, c7⟩, c8⟩ := c'
    go_enter Tryz.func64, Tryz.ntmps64
    go_wp2_with fail
    go_ret
    exact ⟨rfl, rfl⟩
set_option maxHeartbeats 4000000 in
theorem hasS_any (t : Int) (w : World) : Calls Tryz.prog 65 #[.int .i64 t] w fun e w' => e = .returned (.bool (hasS t)) ∧ w = w' := by
  by_cases c1 : t = 3
  · subst c1
    go_enter Tryz.func65, Tryz.ntmps65
    go_wp2_with fail
    go_ret
    exact ⟨rfl, rfl⟩
  · have e1 := int_beq_f c1
    by_cases c2 : t = -3
    · subst c2
      go_enter Tryz.func65, Tryz.ntmps65
      go_wp2_with fail
      go_ret
      exact ⟨rfl, rfl⟩
    · have e2 := int_beq_f c2
      have HS := hide (show hasS t = false by unfold hasS; rw [e1, e2]; rfl)
      go_enter Tryz.func65, Tryz.ntmps65
      go_wp2_with fail
      go_ret
      exact ⟨ret_b HS.out.symm, rfl⟩
set_option maxHeartbeats 4000000 in
theorem isAtom_any (t : Int) (c1 c2 c3 : Value) (w : World) : Calls Tryz.prog 82 #[.agg #[.int .i64 t, c1, c2, c3]] w fun e w' => e = .returned (.bool (atomT t)) ∧ w.grownBy w' none := by
  obtain ⟨wa, hwa⟩ : ∃ wa, wa = w.alloc (.cells #[.int .i64 t, c1, c2, c3] 26) := ⟨_, rfl⟩
  have hc := (C4.box w (.int .i64 t) c1 c2 c3 26).c0
  rw [← hwa] at hc
  have HG := hide (show w.grownBy wa none by rw [hwa]; exact gb_alloc (gb_refl w none) _)
  have HWE := hide hwa
  clear hwa
  by_cases h0 : t < 0
  · have HN := hide (hasN_any t)
    have HS := hide (hasS_any t)
    have HA : Hid (atomT t = (hasN t || hasS t)) := hide (by unfold atomT; simp [h0])
    rw [HA.out]
    clear HA
    cases hn : hasN t
    · rw [hn] at HN
      clear hn
      generalize hasS t = b at *
      go_enter Tryz.func82, Tryz.ntmps82
      go_wp2_with (first
        | (go_at_call 64; refine (HN.out _).mono ?_; rintro e w1 ⟨rfl, rfl⟩)
        | (go_at_call 65; refine (HS.out _).mono ?_; rintro e w1 ⟨rfl, rfl⟩))
      go_ret
      exact ⟨ret_b (by simp), by have := HG.out; rwa [HWE.out] at this⟩
    · rw [hn] at HN
      clear hn
      go_enter Tryz.func82, Tryz.ntmps82
      go_wp2_with (first
        | (go_at_call 64; refine (HN.out _).mono ?_; rintro e w1 ⟨rfl, rfl⟩))
      go_ret
      exact ⟨ret_b (by simp), by have := HG.out; rwa [HWE.out] at this⟩
  · have HA : Hid (atomT t = false) := hide (by unfold atomT; simp [h0])
    have h1 : 0 ≤ t := by omega
    go_enter Tryz.func82, Tryz.ntmps82
    go_wp2_with fail
    go_ret
    exact ⟨ret_b HA.out.symm, by have := HG.out; rwa [HWE.out] at this⟩

set_option maxHeartbeats 4000000 in
set_option maxRecDepth 100000 in
theorem count_d (d : Nat) : ∀ (v : Vl) (w : World) (B : Nat) (nA : Option Addr) (nc : Nat) (sA : Option Addr) (sc : Nat) (lA : Option Addr) (lc : Nat), v.depth ≤ d → v.tot ≤ 1100000 → B ≤ w.heap.size → VB w B v nA nc sA sc lA lc →
    Calls Tryz.prog 30 #[.agg #[.int .i64 v.t, .slice nA v.n.length nc, .slice sA v.s.length sc, .slice lA v.l.length lc]] w fun e w' => e = .returned (.int .i64 (v.count : Nat)) ∧ w.grownBy w' none := by
  induction d with
  | zero => intro v; intros; rw [Vl.depth_def] at *; omega
  | succ d ih =>
    intro v w B nA nc sA sc lA lc hd ht hB hv
    obtain ⟨l1, l2, l3, l4⟩ := Vl.lens v ht
    obtain ⟨wa, hwa⟩ : ∃ wa, wa = w.alloc (.cells #[.int .i64 v.t, .slice nA v.n.length nc, .slice sA v.s.length sc, .slice lA v.l.length lc] 26) := ⟨_, rfl⟩
    have hg : w.grownBy wa none := by rw [hwa]; exact gb_alloc (gb_refl w none) _
    have hc := C4.box w (.int .i64 v.t) (.slice nA v.n.length nc) (.slice sA v.s.length sc) (.slice lA v.l.length lc) 26
    rw [← hwa] at hc
    have IH := hide ih
    have HD := hide hd
    have HT := hide ht
    have HV := hide (hv.gb hg hB)
    have HBW := hide (Nat.le_trans hB hg.size)
    have HC := hide (Vl.count_def v)
    have HG := hide hg
    have HWE := hide hwa
    clear ih hd ht hB hv hg hwa hc
    have fin : w.grownBy (w.alloc (.cells #[.int .i64 v.t, .slice nA v.n.length nc, .slice sA v.s.length sc, .slice lA v.l.length lc] 26)) none := gb_alloc (gb_refl w none) _
    have FIN := hide fin
    clear fin
    by_cases h1 : v.t = 1 ∨ v.t = 2 ∨ v.t = 4 ∨ v.t = 5
    · rw [if_pos h1] at HC
      rw [HC.out]
      generalize v.t = t at *
      clear HV
      rcases h1 with rfl | rfl | rfl | rfl <;>
      · go_enter Tryz.func30, Tryz.ntmps30
        go_wp2_with fail
        go_ret
        exact ⟨rfl, FIN.out⟩
    rw [if_neg h1] at HC
    simp only [not_or] at h1
    obtain ⟨h11, h12, h13, h14⟩ := h1
    have e11 := int_beq_f h11
    have e12 := int_beq_f h12
    have e13 := int_beq_f h13
    have e14 := int_beq_f h14
    clear h11 h12 h13 h14
    by_cases h2 : v.t = 3
    · have e2 := int_beq_t h2
      rw [if_pos h2] at HC
      rw [HC.out]
      clear h2
      go_enter Tryz.func30, Tryz.ntmps30
      go_wp2_with fail
      go_ret
      exact ⟨rfl, FIN.out⟩
    have e2 := int_beq_f h2
    rw [if_neg h2] at HC
    clear h2
    by_cases h3 : v.t = 0
    · have e3 := int_beq_t h3
      rw [if_pos h3] at HC
      rw [HC.out]
      clear h3
      go_enter Tryz.func30, Tryz.ntmps30
      go_wp2_with fail
      go_ret
      exact ⟨rfl, FIN.out⟩
    have e3 := int_beq_f h3
    rw [if_neg h3] at HC
    clear h3
    by_cases h4 : v.t = 98 ∨ v.t = 99
    · rw [if_pos h4] at HC
      by_cases h0 : 0 < v.l.length
      · rw [Vl.countH_at h0] at HC
        obtain ⟨b, o, xA, xc, yA, yc, zA, zc, hlA, hbB, hc4, hvb⟩ := HV.out.l.at_ h0
        subst hlA
        obtain ⟨d0, d1, d2, d3⟩ := hc4
        have d0' : wa.cell? ⟨b, o, none⟩ = some (.int .i64 v.l[0].t) := by simpa using d0
        have d1' : wa.cell? ⟨b, o + 1, none⟩ = some (.slice xA v.l[0].n.length xc) := by simpa using d1
        have d2' : wa.cell? ⟨b, o + 2, none⟩ = some (.slice yA v.l[0].s.length yc) := by simpa using d2
        have d3' : wa.cell? ⟨b, o + 3, none⟩ = some (.slice zA v.l[0].l.length zc) := by simpa using d3
        rw [HWE.out] at d0' d1' d2' d3'
        have HCALL := hide (IH.out v.l[0] wa B xA xc yA yc zA zc (Vl.depth_part HD.out (List.getElem_mem h0)) (Vl.tot_part HT.out (List.getElem_mem h0)) HBW.out hvb)
        have h01 : (0 : Int) < (v.l.length : Int) := by omega
        have HE := hide (congrArg (fun n : Nat => Ending.returned (Value.int .i64 (n : Int))) HC.out)
        clear hvb d0 d1 d2 d3 HC
        rcases h4 with h4 | h4
        · have e4 := int_beq_t h4
          clear h4
          go_enter Tryz.func30, Tryz.ntmps30
          go_wp2_with (go_at_call 30; rw [← HWE.out]; refine HCALL.out.mono ?_; rintro e w1 ⟨rfl, hg1⟩; have HG1 := hide hg1; clear hg1)
          go_ret
          exact ⟨HE.out.symm, gb_trans HG.out HG1.out (.inl rfl)⟩
        · have e4 : (v.t == 98) = false := by rw [h4]; rfl
          have e5 := int_beq_t h4
          clear h4
          go_enter Tryz.func30, Tryz.ntmps30
          go_wp2_with (go_at_call 30; rw [← HWE.out]; refine HCALL.out.mono ?_; rintro e w1 ⟨rfl, hg1⟩; have HG1 := hide hg1; clear hg1)
          go_ret
          exact ⟨HE.out.symm, gb_trans HG.out HG1.out (.inl rfl)⟩
      · have hl0 : v.l.length = 0 := by omega
        have HE : Hid (v.count = 1) := hide (by rw [HC.out, List.eq_nil_of_length_eq_zero hl0]; rfl)
        have HL0 := hide hl0
        have h00 : ¬ (0 : Int) < (v.l.length : Int) := by omega
        clear hl0 h0 HC
        rw [HE.out]
        rcases h4 with h4 | h4
        · have e4 := int_beq_t h4
          clear h4
          go_enter Tryz.func30, Tryz.ntmps30
          go_wp2_with fail
          go_ret
          exact ⟨rfl, FIN.out⟩
        · have e4 : (v.t == 98) = false := by rw [h4]; rfl
          have e5 := int_beq_t h4
          clear h4
          go_enter Tryz.func30, Tryz.ntmps30
          go_wp2_with fail
          go_ret
          exact ⟨rfl, FIN.out⟩
    · rw [if_neg h4] at HC
      rw [HC.out]
      simp only [not_or] at h4
      have e4 := int_beq_f h4.1
      have e5 := int_beq_f h4.2
      clear h4
      go_enter Tryz.func30, Tryz.ntmps30
      go_wp2_with fail
      go_ret
      exact ⟨rfl, FIN.out⟩
theorem count_any (v : Vl) (w : World) (B : Nat) (nA : Option Addr) (nc : Nat) (sA : Option Addr) (sc : Nat) (lA : Option Addr) (lc : Nat) (ht : v.tot ≤ 1100000) (hB : B ≤ w.heap.size) (h : VB w B v nA nc sA sc lA lc) :
    Calls Tryz.prog 30 #[.agg #[.int .i64 v.t, .slice nA v.n.length nc, .slice sA v.s.length sc, .slice lA v.l.length lc]] w fun e w' => e = .returned (.int .i64 (v.count : Nat)) ∧ w.grownBy w' none := count_d v.depth v w B nA nc sA sc lA lc (Nat.le_refl _) ht hB h
end Go.Proofs.YtnilcnobngcbgaaGreat
