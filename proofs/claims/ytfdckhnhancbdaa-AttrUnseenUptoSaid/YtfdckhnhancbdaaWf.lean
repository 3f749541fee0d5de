/-
  The document's own questions: abs, IsAtom, IsVector, column, Count, fields.
-/
import Derived.Test.YtfdckhnhancbdaaVh

namespace Go.Proofs.Ytfdckhnhancbdaa
open Go.RowKit
attribute [local go_sem ↓] Go.wp_at_zero Go.wp_at_succ

def rAbs (t : Int) : Int := if t < 0 ∧ -5 ≤ t then -t else t
def rAtom (t : Int) : Bool := decide (t < 0) && decide (-5 ≤ t)
def rVec (t : Int) : Bool := decide (1 ≤ t) && decide (t ≤ 5)
def rCol (t : Int) : Bool := rVec t || decide (t = 0)

set_option maxHeartbeats 4000000 in
set_option maxRecDepth 100000 in
theorem rAbs_any (t : Int) (w : World) : Calls Try.prog 59 #[.int .i64 t] w fun e w' => e = .returned (.int .i64 (rAbs t)) ∧ w = w' := by
  by_cases h1 : t < 0
  · by_cases h2 : -5 ≤ t
    · have h3 : t = -1 ∨ t = -2 ∨ t = -3 ∨ t = -4 ∨ t = -5 := by omega
      rcases h3 with rfl | rfl | rfl | rfl | rfl <;>
      · clear h1 h2
        go_enter Try.func59, Try.ntmps59
        go_wp2_with fail
        go_ret
        exact ⟨rfl, rfl⟩
    · have HA := hide (show rAbs t = t by unfold rAbs; rw [if_neg (by omega)])
      rw [HA.out]
      have h2' : t < -5 := by omega
      clear h2
      go_enter Try.func59, Try.ntmps59
      go_wp2_with fail
      go_ret
      exact ⟨rfl, rfl⟩
  · have HA := hide (show rAbs t = t by unfold rAbs; rw [if_neg (by omega)])
    rw [HA.out]
    have h2' : 0 ≤ t := by omega
    clear h1
    go_enter Try.func59, Try.ntmps59
    go_wp2_with fail
    go_ret
    exact ⟨rfl, rfl⟩
set_option maxHeartbeats 4000000 in
set_option maxRecDepth 100000 in
theorem rAtom_any (t : Int) (c1 c2 c3 : Value) (w : World) : Calls Try.prog 78 #[.agg #[.int .i64 t, c1, c2, c3]] w fun e w' => e = .returned (.bool (rAtom t)) ∧ w.grownBy w' none := by
  obtain ⟨wa, hwa⟩ : ∃ wa, wa = w.alloc (.cells #[.int .i64 t, c1, c2, c3] 26) := ⟨_, rfl⟩
  have hc := (C4.box w (.int .i64 t) c1 c2 c3 26).c0
  rw [← hwa] at hc
  have HG := hide (show w.grownBy wa none by rw [hwa]; exact gb_alloc (gb_refl w none) _)
  have HWE := hide hwa
  clear hwa
  by_cases h1 : t < 0
  · by_cases h2 : -5 ≤ t
    · have HA := hide (show rAtom t = true by unfold rAtom; simp [h1, h2])
      rw [HA.out]
      go_enter Try.func78, Try.ntmps78
      go_wp2_with fail
      go_ret
      exact ⟨ret_b (by simp), by have := HG.out; rwa [HWE.out] at this⟩
    · have HA := hide (show rAtom t = false by unfold rAtom; simp [h2])
      have h2' : t < -5 := by omega
      rw [HA.out]
      clear h2
      go_enter Try.func78, Try.ntmps78
      go_wp2_with fail
      go_ret
      exact ⟨ret_b (by simp; try omega), by have := HG.out; rwa [HWE.out] at this⟩
  · have HA := hide (show rAtom t = false by unfold rAtom; simp [h1])
    have h1' : 0 ≤ t := by omega
    rw [HA.out]
    clear h1
    go_enter Try.func78, Try.ntmps78
    go_wp2_with fail
    go_ret
    exact ⟨ret_b (by simp), by have := HG.out; rwa [HWE.out] at this⟩
set_option maxHeartbeats 4000000 in
set_option maxRecDepth 100000 in
theorem rVec_any (t : Int) (c1 c2 c3 : Value) (w : World) : Calls Try.prog 19 #[.agg #[.int .i64 t, c1, c2, c3]] w fun e w' => e = .returned (.bool (rVec t)) ∧ w.grownBy w' none := by
  obtain ⟨wa, hwa⟩ : ∃ wa, wa = w.alloc (.cells #[.int .i64 t, c1, c2, c3] 26) := ⟨_, rfl⟩
  have hc := (C4.box w (.int .i64 t) c1 c2 c3 26).c0
  rw [← hwa] at hc
  have HG := hide (show w.grownBy wa none by rw [hwa]; exact gb_alloc (gb_refl w none) _)
  have HWE := hide hwa
  clear hwa
  by_cases h1 : 1 ≤ t
  · by_cases h2 : t ≤ 5
    · have HA := hide (show rVec t = true by unfold rVec; simp [h1, h2])
      rw [HA.out]
      go_enter Try.func19, Try.ntmps19
      go_wp2_with fail
      go_ret
      exact ⟨ret_b (by simp), by have := HG.out; rwa [HWE.out] at this⟩
    · have HA := hide (show rVec t = false by unfold rVec; simp [h2])
      have h2' : 5 < t := by omega
      rw [HA.out]
      clear h2
      go_enter Try.func19, Try.ntmps19
      go_wp2_with fail
      go_ret
      exact ⟨ret_b (by simp; try omega), by have := HG.out; rwa [HWE.out] at this⟩
  · have HA := hide (show rVec t = false by unfold rVec; simp [h1])
    have h1' : t < 1 := by omega
    rw [HA.out]
    clear h1
    go_enter Try.func19, Try.ntmps19
    go_wp2_with fail
    go_ret
    exact ⟨ret_b (by simp), by have := HG.out; rwa [HWE.out] at this⟩
end Go.Proofs.Ytfdckhnhancbdaa

/- The document's own column, Count, fields. -/
namespace Go.Proofs.Ytfdckhnhancbdaa
open Go.RowKit
attribute [local go_sem ↓] Go.wp_at_zero Go.wp_at_succ

set_option maxHeartbeats 4000000 in
set_option maxRecDepth 100000 in
theorem rCol_any (t : Int) (c1 c2 c3 : Value) (w : World) : Calls Try.prog 88 #[.agg #[.int .i64 t, c1, c2, c3]] w fun e w' => e = .returned (.bool (rCol t)) ∧ w.grownBy w' none := by
  obtain ⟨wa, hwa⟩ : ∃ wa, wa = w.alloc (.cells #[.int .i64 t, c1, c2, c3] 26) := ⟨_, rfl⟩
  have hc := C4.box w (.int .i64 t) c1 c2 c3 26
  rw [← hwa] at hc
  have b0 : wa.cell? ⟨w.heap.size, 0, none⟩ = some (.int .i64 t) := hc.c0
  have b1 : wa.cell? ⟨w.heap.size, 1, none⟩ = some c1 := hc.c1
  have b2 : wa.cell? ⟨w.heap.size, 2, none⟩ = some c2 := hc.c2
  have b3 : wa.cell? ⟨w.heap.size, 3, none⟩ = some c3 := hc.c3
  have HG := hide (show w.grownBy wa none by rw [hwa]; exact gb_alloc (gb_refl w none) _)
  have HWE := hide hwa
  clear hwa hc
  have HV := hide (fun w2 => rVec_any t c1 c2 c3 w2)
  cases hv : rVec t
  · rw [hv] at HV
    by_cases h0 : t = 0
    · have HA := hide (show rCol t = true by unfold rCol; simp [h0])
      rw [HA.out]
      have e0 := int_beq_t h0
      clear h0 hv HA
      go_enter Try.func88, Try.ntmps88
      go_wp2_with (go_at_call 19; rw [← HWE.out]; refine (HV.out _).mono ?_; rintro e w1 ⟨rfl, hg1⟩; have b0 := cell_gb b0 hg1; have HG1 := hide hg1; clear hg1)
      go_ret
      exact ⟨ret_b (by simp), gb_trans HG.out HG1.out (.inl rfl)⟩
    · have HA := hide (show rCol t = false by unfold rCol; simp [hv, h0])
      rw [HA.out]
      have e0 := int_beq_f h0
      clear h0 hv HA
      go_enter Try.func88, Try.ntmps88
      go_wp2_with (go_at_call 19; rw [← HWE.out]; refine (HV.out _).mono ?_; rintro e w1 ⟨rfl, hg1⟩; have b0 := cell_gb b0 hg1; have HG1 := hide hg1; clear hg1)
      go_ret
      exact ⟨ret_b (by simp), gb_trans HG.out HG1.out (.inl rfl)⟩
  · rw [hv] at HV
    have HA := hide (show rCol t = true by unfold rCol; simp [hv])
    rw [HA.out]
    clear hv HA
    go_enter Try.func88, Try.ntmps88
    go_wp2_with (go_at_call 19; rw [← HWE.out]; refine (HV.out _).mono ?_; rintro e w1 ⟨rfl, hg1⟩; have b0 := cell_gb b0 hg1; have HG1 := hide hg1; clear hg1)
    go_ret
    exact ⟨ret_b (by simp), gb_trans HG.out HG1.out (.inl rfl)⟩

set_option maxHeartbeats 8000000 in
set_option maxRecDepth 100000 in
theorem rCount_d (d : Nat) : ∀ (v : Vl) (w : World) (B : Nat) (nA : Option Addr) (nc : Nat) (sA : Option Addr) (sc : Nat) (lA : Option Addr) (lc : Nat), v.depth ≤ d → v.tot ≤ 1100000 → B ≤ w.heap.size → VB w B v nA nc sA sc lA lc →
    Calls Try.prog 44 #[.agg #[.int .i64 v.t, .slice nA v.n.length nc, .slice sA v.s.length sc, .slice lA v.l.length lc]] w fun e w' => e = .returned (.int .i64 (v.count : Nat)) ∧ w.grownBy w' none := by
  induction d with
  | zero => intro v; intros; rw [Vl.depth_def] at *; omega
  | succ d ih =>
    intro v w B nA nc sA sc lA lc hd ht hB hv
    obtain ⟨l1, l2, l3, l4⟩ := Vl.lens v ht
    obtain ⟨wa, hwa⟩ : ∃ wa, wa = w.alloc (.cells #[.int .i64 v.t, .slice nA v.n.length nc, .slice sA v.s.length sc, .slice lA v.l.length lc] 26) := ⟨_, rfl⟩
    have hg : w.grownBy wa none := by rw [hwa]; exact gb_alloc (gb_refl w none) _
    have hc := C4.box w (.int .i64 v.t) (.slice nA v.n.length nc) (.slice sA v.s.length sc) (.slice lA v.l.length lc) 26
    rw [← hwa] at hc
    have b0 : wa.cell? ⟨w.heap.size, 0, none⟩ = some (.int .i64 v.t) := hc.c0
    have b1 : wa.cell? ⟨w.heap.size, 1, none⟩ = some (.slice nA v.n.length nc) := hc.c1
    have b2 : wa.cell? ⟨w.heap.size, 2, none⟩ = some (.slice sA v.s.length sc) := hc.c2
    have b3 : wa.cell? ⟨w.heap.size, 3, none⟩ = some (.slice lA v.l.length lc) := hc.c3
    have IH := hide ih
    have HD := hide hd
    have HT := hide ht
    have hbw := Nat.le_trans hB hg.size
    have HV := hide (hv.gb hg hB)
    have HBW := hide hbw
    have HC := hide (Vl.count_def v)
    have HG := hide hg
    have HWE := hide hwa
    have HVEC := hide (fun w2 => rVec_any v.t (.slice nA v.n.length nc) (.slice sA v.s.length sc) (.slice lA v.l.length lc) w2)
    have FIN := hide (show w.grownBy (w.alloc (.cells #[.int .i64 v.t, .slice nA v.n.length nc, .slice sA v.s.length sc, .slice lA v.l.length lc] 26)) none from gb_alloc (gb_refl w none) _)
    clear ih hd ht hB hv hg hwa hc hbw
    by_cases h2 : v.t = 3
    · have e2 := int_beq_t h2
      rw [if_neg (by omega), if_pos h2] at HC
      rw [HC.out]
      clear h2
      go_enter Try.func44, Try.ntmps44
      go_wp2_with fail
      rw [← HWE.out]
      go_wp2_with fail
      go_ret
      exact ⟨rfl, HG.out⟩
    have e2 := int_beq_f h2
    by_cases h1 : v.t = 1 ∨ v.t = 2 ∨ v.t = 4 ∨ v.t = 5
    · rw [if_pos h1] at HC
      rw [HC.out]
      have hvec : rVec v.t = true := by unfold rVec; rcases h1 with h | h | h | h <;> rw [h] <;> rfl
      rw [hvec] at HVEC
      clear h1 h2 hvec
      go_enter Try.func44, Try.ntmps44
      go_wp2_with (go_at_call 19; rw [← HWE.out]; refine (HVEC.out _).mono ?_; rintro e w1 ⟨rfl, hg1⟩; have b0 := cell_gb b0 hg1; have b1 := cell_gb b1 hg1; have b3 := cell_gb b3 hg1; have HG1 := hide hg1; clear hg1)
      go_ret
      exact ⟨rfl, gb_trans HG.out HG1.out (.inl rfl)⟩
    have hvec : rVec v.t = false := by
      unfold rVec
      simp only [not_or] at h1
      by_cases ha : 1 ≤ v.t
      · by_cases hb : v.t ≤ 5
        · omega
        · simp [hb]
      · simp [ha]
    rw [hvec] at HVEC
    rw [if_neg h1, if_neg h2] at HC
    clear h1 h2 hvec
    by_cases h3 : v.t = 0
    · have e3 := int_beq_t h3
      rw [if_pos h3] at HC
      rw [HC.out]
      clear h3
      go_enter Try.func44, Try.ntmps44
      go_wp2_with (go_at_call 19; rw [← HWE.out]; refine (HVEC.out _).mono ?_; rintro e w1 ⟨rfl, hg1⟩; have b0 := cell_gb b0 hg1; have b1 := cell_gb b1 hg1; have b3 := cell_gb b3 hg1; have HG1 := hide hg1; clear hg1)
      go_ret
      exact ⟨rfl, gb_trans HG.out HG1.out (.inl rfl)⟩
    have e3 := int_beq_f h3
    rw [if_neg h3] at HC
    clear h3
    by_cases h4 : v.t = 98 ∨ v.t = 99
    · rw [if_pos h4] at HC
      by_cases h0 : 0 < v.l.length
      · rw [Vl.countH_at h0] at HC
        obtain ⟨b, o, xA, xc, yA, yc, zA, zc, hlA, hbB, hc4, hvb⟩ := HV.out.l.at_ h0
        subst hlA
        obtain ⟨d0, d1, d2, d3⟩ := hc4
        have d0' : wa.cell? ⟨b, o, none⟩ = some (.int .i64 v.l[0].t) := by simpa using d0
        have d1' : wa.cell? ⟨b, o + 1, none⟩ = some (.slice xA v.l[0].n.length xc) := by simpa using d1
        have d2' : wa.cell? ⟨b, o + 2, none⟩ = some (.slice yA v.l[0].s.length yc) := by simpa using d2
        have d3' : wa.cell? ⟨b, o + 3, none⟩ = some (.slice zA v.l[0].l.length zc) := by simpa using d3
        have HCALL := hide (fun w2 (k : wa.grownBy w2 none) => IH.out v.l[0] w2 B xA xc yA yc zA zc (Vl.depth_part HD.out (List.getElem_mem h0)) (Vl.tot_part HT.out (List.getElem_mem h0)) (Nat.le_trans HBW.out k.size) (hvb.gb k HBW.out))
        have h01 : (0 : Int) < (v.l.length : Int) := by omega
        have HE := hide (congrArg (fun n : Nat => Ending.returned (Value.int .i64 (n : Int))) HC.out)
        clear hvb d0 d1 d2 d3 HC
        rcases h4 with h4 | h4
        · have e4 := int_beq_t h4
          clear h4
          go_enter Try.func44, Try.ntmps44
          go_wp2_with (first
            | (go_at_call 19; rw [← HWE.out]; refine (HVEC.out _).mono ?_; rintro e w1 ⟨rfl, hg1⟩; have b0 := cell_gb b0 hg1; have b3 := cell_gb b3 hg1; have d0' := cell_gb d0' hg1; have d1' := cell_gb d1' hg1; have d2' := cell_gb d2' hg1; have d3' := cell_gb d3' hg1; have HG1 := hide hg1; clear hg1)
            | (go_at_call 44; refine (HCALL.out w1 HG1.out).mono ?_; rintro e w2 ⟨rfl, hg2⟩; have HG2 := hide (gb_trans HG1.out hg2 (.inl rfl)); clear hg2))
          go_ret
          exact ⟨HE.out.symm, gb_trans HG.out HG2.out (.inl rfl)⟩
        · have e4 : (v.t == 98) = false := by rw [h4]; rfl
          have e5 := int_beq_t h4
          clear h4
          go_enter Try.func44, Try.ntmps44
          go_wp2_with (first
            | (go_at_call 19; rw [← HWE.out]; refine (HVEC.out _).mono ?_; rintro e w1 ⟨rfl, hg1⟩; have b0 := cell_gb b0 hg1; have b3 := cell_gb b3 hg1; have d0' := cell_gb d0' hg1; have d1' := cell_gb d1' hg1; have d2' := cell_gb d2' hg1; have d3' := cell_gb d3' hg1; have HG1 := hide hg1; clear hg1)
            | (go_at_call 44; refine (HCALL.out w1 HG1.out).mono ?_; rintro e w2 ⟨rfl, hg2⟩; have HG2 := hide (gb_trans HG1.out hg2 (.inl rfl)); clear hg2))
          go_ret
          exact ⟨HE.out.symm, gb_trans HG.out HG2.out (.inl rfl)⟩
      · have hl0 : v.l.length = 0 := by omega
        have HE : Hid (v.count = 1) := hide (by rw [HC.out, List.eq_nil_of_length_eq_zero hl0]; rfl)
        have h00 : ¬ (0 : Int) < (v.l.length : Int) := by omega
        clear hl0 h0 HC
        rw [HE.out]
        rcases h4 with h4 | h4
        · have e4 := int_beq_t h4
          clear h4
          go_enter Try.func44, Try.ntmps44
          go_wp2_with (go_at_call 19; rw [← HWE.out]; refine (HVEC.out _).mono ?_; rintro e w1 ⟨rfl, hg1⟩; have b0 := cell_gb b0 hg1; have b1 := cell_gb b1 hg1; have b3 := cell_gb b3 hg1; have HG1 := hide hg1; clear hg1)
          go_ret
          exact ⟨rfl, gb_trans HG.out HG1.out (.inl rfl)⟩
        · have e4 : (v.t == 98) = false := by rw [h4]; rfl
          have e5 := int_beq_t h4
          clear h4
          go_enter Try.func44, Try.ntmps44
          go_wp2_with (go_at_call 19; rw [← HWE.out]; refine (HVEC.out _).mono ?_; rintro e w1 ⟨rfl, hg1⟩; have b0 := cell_gb b0 hg1; have b1 := cell_gb b1 hg1; have b3 := cell_gb b3 hg1; have HG1 := hide hg1; clear hg1)
          go_ret
          exact ⟨rfl, gb_trans HG.out HG1.out (.inl rfl)⟩
    · rw [if_neg h4] at HC
      rw [HC.out]
      simp only [not_or] at h4
      have e4 := int_beq_f h4.1
      have e5 := int_beq_f h4.2
      clear h4
      go_enter Try.func44, Try.ntmps44
      go_wp2_with (go_at_call 19; rw [← HWE.out]; refine (HVEC.out _).mono ?_; rintro e w1 ⟨rfl, hg1⟩; have b0 := cell_gb b0 hg1; have b1 := cell_gb b1 hg1; have b3 := cell_gb b3 hg1; have HG1 := hide hg1; clear hg1)
      go_ret
      exact ⟨rfl, gb_trans HG.out HG1.out (.inl rfl)⟩
theorem rCount_any (v : Vl) (w : World) (B : Nat) (nA : Option Addr) (nc : Nat) (sA : Option Addr) (sc : Nat) (lA : Option Addr) (lc : Nat) (ht : v.tot ≤ 1100000) (hB : B ≤ w.heap.size) (h : VB w B v nA nc sA sc lA lc) :
    Calls Try.prog 44 #[.agg #[.int .i64 v.t, .slice nA v.n.length nc, .slice sA v.s.length sc, .slice lA v.l.length lc]] w fun e w' => e = .returned (.int .i64 (v.count : Nat)) ∧ w.grownBy w' none := rCount_d v.depth v w B nA nc sA sc lA lc (Nat.le_refl _) ht hB h
end Go.Proofs.Ytfdckhnhancbdaa
