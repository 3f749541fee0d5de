/-
  What is named; too many; too long; depth.
-/
import Derived.Test.YtfckmkpfhchggaaVw

namespace Go.Proofs.Ytfckmkpfhchggaa
open Go.RowKit
attribute [local go_sem ↓] Go.wp_at_zero Go.wp_at_succ

/-- Has a value nothing but what its type names? -/
def named (v : Vl) : Bool :=
  let a := (v.n.length : Int) == 0
  let b := (v.s.length : Int) == 0
  let c := (v.l.length : Int) == 0
  if v.t = 0 ∨ v.t = 99 then a && b else if v.t = 98 then a else if v.t = 100 then a && c else if v.t = 101 then a && b && c else hasN v.t && b && c || hasS v.t && a && c

set_option maxHeartbeats 16000000 in
set_option maxRecDepth 100000 in
theorem named_any (v : Vl) (nA : Option Addr) (nc : Nat) (sA : Option Addr) (sc : Nat) (lA : Option Addr) (lc : Nat) (w : World) (ht : v.tot ≤ 1100000) :
    Calls Try.prog 90 #[.agg #[.int .i64 v.t, .slice nA v.n.length nc, .slice sA v.s.length sc, .slice lA v.l.length lc]] w fun e w' => e = .returned (.bool (named v)) ∧ w.grownBy w' none := by
  obtain ⟨l1, l2, l3, _⟩ := Vl.lens v ht
  have HD := hide (show named v = (if v.t = 0 ∨ v.t = 99 then ((v.n.length : Int) == 0) && ((v.s.length : Int) == 0) else if v.t = 98 then ((v.n.length : Int) == 0) else if v.t = 100 then ((v.n.length : Int) == 0) && ((v.l.length : Int) == 0) else if v.t = 101 then ((v.n.length : Int) == 0) && ((v.s.length : Int) == 0) && ((v.l.length : Int) == 0) else hasN v.t && ((v.s.length : Int) == 0) && ((v.l.length : Int) == 0) || hasS v.t && ((v.n.length : Int) == 0) && ((v.l.length : Int) == 0)) from rfl)
  rw [HD.out]
  clear HD
  have HN := hide (hasN_any v.t)
  have HS := hide (hasS_any v.t)
  generalize v.t = t at *
  generalize v.n.length = n at *
  generalize v.s.length = s at *
  generalize v.l.length = l at *
  obtain ⟨wa, hwa⟩ : ∃ wa, wa = w.alloc (.cells #[.int .i64 t, .slice nA n nc, .slice sA s sc, .slice lA l lc] 26) := ⟨_, rfl⟩
  have HG := hide (show w.grownBy wa none by rw [hwa]; exact gb_alloc (gb_refl w none) _)
  have hc := C4.box w (.int .i64 t) (.slice nA n nc) (.slice sA s sc) (.slice lA l lc) 26
  rw [← hwa] at hc
  have b0 : wa.cell? ⟨w.heap.size, 0, none⟩ = some (.int .i64 t) := hc.c0
  have b1 : wa.cell? ⟨w.heap.size, 1, none⟩ = some (.slice nA n nc) := hc.c1
  have b2 : wa.cell? ⟨w.heap.size, 2, none⟩ = some (.slice sA s sc) := hc.c2
  have b3 : wa.cell? ⟨w.heap.size, 3, none⟩ = some (.slice lA l lc) := hc.c3
  have HWE := hide hwa
  clear hwa hc
  generalize ha : ((n : Int) == 0) = a at *
  generalize hb : ((s : Int) == 0) = b at *
  generalize hd : ((l : Int) == 0) = d at *
  by_cases h0 : t = 0 ∨ t = 99
  · rw [if_pos h0]
    rcases h0 with rfl | rfl <;>
    · cases a <;> cases b <;>
      · go_enter Try.func90, Try.ntmps90
        go_wp2_with fail
        rw [← HWE.out]
        go_quiet (fail)
        go_wp2_with fail
        go_ret
        exact ⟨rfl, gb_drewN HG.out _⟩
  rw [if_neg h0]
  simp only [not_or] at h0
  have e0 := int_beq_f h0.1
  have e99 := int_beq_f h0.2
  clear h0
  by_cases h98 : t = 98
  · rw [if_pos h98]
    subst h98
    go_enter Try.func90, Try.ntmps90
    go_wp2_with fail
    rw [← HWE.out]
    go_quiet (fail)
    go_wp2_with fail
    go_ret
    exact ⟨rfl, gb_drewN HG.out _⟩
  rw [if_neg h98]
  have e98 := int_beq_f h98
  clear h98
  by_cases h100 : t = 100
  · rw [if_pos h100]
    subst h100
    cases a <;> cases d <;>
    · go_enter Try.func90, Try.ntmps90
      go_wp2_with fail
      rw [← HWE.out]
      go_quiet (fail)
      go_wp2_with fail
      go_ret
      exact ⟨rfl, gb_drewN HG.out _⟩
  rw [if_neg h100]
  have e100 := int_beq_f h100
  clear h100
  by_cases h101 : t = 101
  · rw [if_pos h101]
    subst h101
    cases a <;> cases b <;> cases d <;>
    · go_enter Try.func90, Try.ntmps90
      go_wp2_with fail
      rw [← HWE.out]
      go_quiet (fail)
      go_wp2_with fail
      go_ret
      exact ⟨rfl, gb_drewN HG.out _⟩
  rw [if_neg h101]
  have e101 := int_beq_f h101
  clear h101
  generalize hasN t = p at *
  generalize hasS t = r at *
  cases p <;> cases r <;> cases a <;> cases b <;> cases d <;>
  · go_enter Try.func90, Try.ntmps90
    go_wp2_with fail
    rw [← HWE.out]
    go_quiet (fail)
    go_wp2_with (first
      | (go_at_call 51; refine (HN.out _).mono ?_; rintro e w1 ⟨rfl, rfl⟩)
      | (go_at_call 52; refine (HS.out _).mono ?_; rintro e w1 ⟨rfl, rfl⟩))
    go_ret
    exact ⟨rfl, gb_drewN HG.out _⟩
end Go.Proofs.Ytfckmkpfhchggaa

/- Too many, too long, level, depth. -/
namespace Go.Proofs.Ytfckmkpfhchggaa
open Go.RowKit
attribute [local go_sem ↓] Go.wp_at_zero Go.wp_at_succ

def manyV (v : Vl) : Bool := if v.t = 98 then decide (64 < v.s.length) || decide (64 < v.l.length) else isSeq v && decide (65536 < v.count)
set_option maxHeartbeats 8000000 in
set_option maxRecDepth 100000 in
theorem many_any (v : Vl) (w : World) (B : Nat) (nA : Option Addr) (nc : Nat) (sA : Option Addr) (sc : Nat) (lA : Option Addr) (lc : Nat) (ht : v.tot ≤ 1100000) (hB : B ≤ w.heap.size) (h : VB w B v nA nc sA sc lA lc) :
    Calls Try.prog 91 #[.agg #[.int .i64 v.t, .slice nA v.n.length nc, .slice sA v.s.length sc, .slice lA v.l.length lc]] w fun e w' => e = .returned (.bool (manyV v)) ∧ w.grownBy w' none := by
  obtain ⟨l1, l2, l3, l4⟩ := Vl.lens v ht
  obtain ⟨wa, hwa⟩ : ∃ wa, wa = w.alloc (.cells #[.int .i64 v.t, .slice nA v.n.length nc, .slice sA v.s.length sc, .slice lA v.l.length lc] 26) := ⟨_, rfl⟩
  have hg : w.grownBy wa none := by rw [hwa]; exact gb_alloc (gb_refl w none) _
  have hc := C4.box w (.int .i64 v.t) (.slice nA v.n.length nc) (.slice sA v.s.length sc) (.slice lA v.l.length lc) 26
  rw [← hwa] at hc
  have b0 : wa.cell? ⟨w.heap.size, 0, none⟩ = some (.int .i64 v.t) := hc.c0
  have b1 : wa.cell? ⟨w.heap.size, 1, none⟩ = some (.slice nA v.n.length nc) := hc.c1
  have b2 : wa.cell? ⟨w.heap.size, 2, none⟩ = some (.slice sA v.s.length sc) := hc.c2
  have b3 : wa.cell? ⟨w.heap.size, 3, none⟩ = some (.slice lA v.l.length lc) := hc.c3
  have hbw := Nat.le_trans hB hg.size
  have HV := hide (h.gb hg hB)
  have HBW := hide hbw
  have HG := hide hg
  have HWE := hide hwa
  have FIN := hide (show w.grownBy (w.alloc (.cells #[.int .i64 v.t, .slice nA v.n.length nc, .slice sA v.s.length sc, .slice lA v.l.length lc] 26)) none from gb_alloc (gb_refl w none) _)
  have HD := hide (show manyV v = if v.t = 98 then decide (64 < v.s.length) || decide (64 < v.l.length) else isSeq v && decide (65536 < v.count) from rfl)
  have HSQ := hide (fun w2 => isSeq_any v (.slice nA v.n.length nc) (.slice sA v.s.length sc) (.slice lA v.l.length lc) w2)
  have HCN := hide (fun w2 (k : wa.grownBy w2 none) => count_any v w2 B nA nc sA sc lA lc ht (Nat.le_trans hbw k.size) ((h.gb hg hB).gb k hbw))
  clear ht hB h hg hwa hc hbw
  by_cases h98 : v.t = 98
  · rw [if_pos h98] at HD
    rw [HD.out]
    have e98 := int_beq_t h98
    clear h98 HD
    by_cases hs : 64 < v.s.length
    · have hs1 : (64 : Int) < (v.s.length : Int) := by omega
      go_enter Try.func91, Try.ntmps91
      go_wp2_with fail
      go_ret
      exact ⟨ret_b (by simp [hs]), FIN.out⟩
    · have hs1 : ¬ (64 : Int) < (v.s.length : Int) := by omega
      by_cases hl : 64 < v.l.length
      · have hl1 : (64 : Int) < (v.l.length : Int) := by omega
        go_enter Try.func91, Try.ntmps91
        go_wp2_with fail
        go_ret
        exact ⟨ret_b (by simp), FIN.out⟩
      · have hl1 : ¬ (64 : Int) < (v.l.length : Int) := by omega
        go_enter Try.func91, Try.ntmps91
        go_wp2_with fail
        go_ret
        exact ⟨ret_b (by first | rfl | (simp; done) | (simp; omega)), FIN.out⟩
  · rw [if_neg h98] at HD
    rw [HD.out]
    have e98 := int_beq_f h98
    clear h98 HD
    cases hq : isSeq v
    · rw [hq] at HSQ
      clear hq
      go_enter Try.func91, Try.ntmps91
      go_wp2_with fail
      rw [← HWE.out]
      refine (HSQ.out wa).mono ?_
      rintro e w1 ⟨rfl, hg1⟩
      have HG1 := hide hg1
      clear hg1
      go_wp2_with fail
      go_ret
      exact ⟨ret_b (by simp), gb_trans HG.out HG1.out (.inl rfl)⟩
    · rw [hq] at HSQ
      clear hq
      generalize v.count = m at *
      have HDM := hide (show decide ((65536 : Int) < (m : Int)) = decide (65536 < m) by rw [decide_eq_decide]; omega)
      go_enter Try.func91, Try.ntmps91
      go_wp2_with fail
      rw [← HWE.out]
      refine (HSQ.out wa).mono ?_
      rintro e w1 ⟨rfl, hg1⟩
      have c0 := cell_gb b0 hg1
      have c1 := cell_gb b1 hg1
      have c2 := cell_gb b2 hg1
      have c3 := cell_gb b3 hg1
      have HG1 := hide hg1
      clear hg1
      go_wp2_with fail
      refine (HCN.out w1 HG1.out).mono ?_
      rintro e w2 ⟨rfl, hg2⟩
      have HG2 := hide hg2
      clear hg2
      go_wp2_with fail
      go_ret
      exact ⟨ret_b (by first | (rw [Bool.true_and]; exact HDM.out) | rfl), gb_trans HG.out (gb_trans HG1.out HG2.out (.inl rfl)) (.inl rfl)⟩

def tooLongV (v : Vl) : Bool := v.s.any (longS (if v.t = 100 then 65536 else 64))
set_option maxHeartbeats 8000000 in
set_option maxRecDepth 100000 in
theorem tooLong_any (v : Vl) (w : World) (B : Nat) (nA : Option Addr) (nc : Nat) (sA : Option Addr) (sc : Nat) (lA : Option Addr) (lc : Nat) (ht : v.tot ≤ 1100000) (hB : B ≤ w.heap.size) (h : VB w B v nA nc sA sc lA lc) :
    Calls Try.prog 92 #[.agg #[.int .i64 v.t, .slice nA v.n.length nc, .slice sA v.s.length sc, .slice lA v.l.length lc]] w fun e w' => e = .returned (.bool (tooLongV v)) ∧ w.grownBy w' none := by
  obtain ⟨l1, l2, l3, l4⟩ := Vl.lens v ht
  obtain ⟨wa, hwa⟩ : ∃ wa, wa = w.alloc (.cells #[.int .i64 v.t, .slice nA v.n.length nc, .slice sA v.s.length sc, .slice lA v.l.length lc] 26) := ⟨_, rfl⟩
  have hg : w.grownBy wa none := by rw [hwa]; exact gb_alloc (gb_refl w none) _
  have hc := C4.box w (.int .i64 v.t) (.slice nA v.n.length nc) (.slice sA v.s.length sc) (.slice lA v.l.length lc) 26
  rw [← hwa] at hc
  have b0 : wa.cell? ⟨w.heap.size, 0, none⟩ = some (.int .i64 v.t) := hc.c0
  have b1 : wa.cell? ⟨w.heap.size, 1, none⟩ = some (.slice nA v.n.length nc) := hc.c1
  have b2 : wa.cell? ⟨w.heap.size, 2, none⟩ = some (.slice sA v.s.length sc) := hc.c2
  have b3 : wa.cell? ⟨w.heap.size, 3, none⟩ = some (.slice lA v.l.length lc) := hc.c3
  have hbw := Nat.le_trans hB hg.size
  have HV := hide (h.gb hg hB)
  have HBW := hide hbw
  have HG := hide hg
  have HWE := hide hwa
  have FIN := hide (show w.grownBy (w.alloc (.cells #[.int .i64 v.t, .slice nA v.n.length nc, .slice sA v.s.length sc, .slice lA v.l.length lc] 26)) none from gb_alloc (gb_refl w none) _)
  have HD := hide (show tooLongV v = v.s.any (longS (if v.t = 100 then 65536 else 64)) from rfl)
  have hk : ∀ m : Int, wa.grownBy (wa.alloc (.cells #[.int .i64 m] 3)) none := fun m => gb_alloc (gb_refl wa none) _
  have HH := hide (fun m : Int => longS_has m wa.heap.size v.s (wa.alloc (.cells #[.int .i64 m] 3)) B sA sc l2 (Nat.le_trans hbw (hk m).size) (((h.gb hg hB).gb (hk m) hbw).s) (by rw [blk_cell (heap_alloc_new wa _)]; rfl))
  have HK := hide hk
  have hws : wa.heap.size = w.heap.size + 1 := by rw [hwa]; simp
  rw [hws, hwa] at HH
  have HB0 := hide (fun m : Int => cell_gb b0 (hk m))
  have HB2 := hide (fun m : Int => cell_gb b2 (hk m))
  rw [hwa] at HB0 HB2
  clear ht hB h hg hwa hc hbw hk hws
  by_cases h100 : v.t = 100
  · rw [if_pos h100] at HD
    rw [HD.out]
    have e100 := int_beq_t h100
    have HHM := hide (HH.out 65536)
    have q0 := HB0.out 64
    have q2 := HB2.out 65536
    clear h100 HD HH
    generalize v.s.any (longS 65536) = b at *
    go_enter Try.func92, Try.ntmps92
    go_wp2_with (go_at_call 96; refine HHM.out.mono ?_; rintro e w1 ⟨rfl, hg1⟩; have HG1 := hide hg1; clear hg1)
    go_ret
    exact ⟨rfl, gb_trans (gb_trans FIN.out (gb_alloc (gb_refl _ none) _) (.inl rfl)) HG1.out (.inl rfl)⟩
  · rw [if_neg h100] at HD
    rw [HD.out]
    have e100 := int_beq_f h100
    have HHM := hide (HH.out 64)
    have q0 := HB0.out 64
    have q2 := HB2.out 64
    clear h100 HD HH
    generalize v.s.any (longS 64) = b at *
    go_enter Try.func92, Try.ntmps92
    go_wp2_with (go_at_call 96; refine HHM.out.mono ?_; rintro e w1 ⟨rfl, hg1⟩; have HG1 := hide hg1; clear hg1)
    go_ret
    exact ⟨rfl, gb_trans (gb_trans FIN.out (gb_alloc (gb_refl _ none) _) (.inl rfl)) HG1.out (.inl rfl)⟩

/-! ## level -/

def lvl (m : Int) (v : Vl) : Bool := (v.count : Int) == m
set_option maxHeartbeats 8000000 in
set_option maxRecDepth 100000 in
theorem lvl_one (m : Int) (g0 : Nat) (v : Vl) (w : World) (B : Nat) (nA : Option Addr) (nc : Nat) (sA : Option Addr) (sc : Nat) (lA : Option Addr) (lc : Nat) (ht : v.tot ≤ 1100000) (hB : B ≤ w.heap.size) (h : VB w B v nA nc sA sc lA lc) (h0 : w.cell? ⟨g0, 0, none⟩ = some (.int .i64 m)) :
    Calls Try.prog 103 #[.agg #[.int .i64 v.t, .slice nA v.n.length nc, .slice sA v.s.length sc, .slice lA v.l.length lc], .pointer (some ⟨g0, 0, none⟩)] w fun e w' => e = .returned (.bool (lvl m v)) ∧ w.grownBy w' none := by
  obtain ⟨l1, l2, l3, l4⟩ := Vl.lens v ht
  obtain ⟨wa, hwa⟩ : ∃ wa, wa = w.alloc (.cells #[.int .i64 v.t, .slice nA v.n.length nc, .slice sA v.s.length sc, .slice lA v.l.length lc] 26) := ⟨_, rfl⟩
  have hg : w.grownBy wa none := by rw [hwa]; exact gb_alloc (gb_refl w none) _
  have hc := C4.box w (.int .i64 v.t) (.slice nA v.n.length nc) (.slice sA v.s.length sc) (.slice lA v.l.length lc) 26
  rw [← hwa] at hc
  have b0 : wa.cell? ⟨w.heap.size, 0, none⟩ = some (.int .i64 v.t) := hc.c0
  have b1 : wa.cell? ⟨w.heap.size, 1, none⟩ = some (.slice nA v.n.length nc) := hc.c1
  have b2 : wa.cell? ⟨w.heap.size, 2, none⟩ = some (.slice sA v.s.length sc) := hc.c2
  have b3 : wa.cell? ⟨w.heap.size, 3, none⟩ = some (.slice lA v.l.length lc) := hc.c3
  have hbw := Nat.le_trans hB hg.size
  have HV := hide (h.gb hg hB)
  have HBW := hide hbw
  have HG := hide hg
  have HWE := hide hwa
  have FIN := hide (show w.grownBy (w.alloc (.cells #[.int .i64 v.t, .slice nA v.n.length nc, .slice sA v.s.length sc, .slice lA v.l.length lc] 26)) none from gb_alloc (gb_refl w none) _)
  have HD := hide (show lvl m v = ((v.count : Int) == m) from rfl)
  have g0c := cell_gb h0 hg
  have HCN := hide (fun w2 (k : wa.grownBy w2 none) => count_any v w2 B nA nc sA sc lA lc ht (Nat.le_trans hbw k.size) ((h.gb hg hB).gb k hbw))
  rw [HD.out]
  clear ht hB h hg hwa hc hbw h0 HD
  generalize v.count = k at *
  go_enter Try.func103, Try.ntmps103
  go_wp2_with fail
  rw [← HWE.out]
  go_region_held3 (fun w' => w'.cell? ⟨w.heap.size, 0, none⟩ = some (.int .i64 v.t) ∧ w'.cell? ⟨w.heap.size, 1, none⟩ = some (.slice nA v.n.length nc) ∧ w'.cell? ⟨w.heap.size, 2, none⟩ = some (.slice sA v.s.length sc) ∧ w'.cell? ⟨w.heap.size, 3, none⟩ = some (.slice lA v.l.length lc) ∧ w'.cell? ⟨g0, 0, none⟩ = some (.int .i64 m))
    (first | exact ⟨b0, b1, b2, b3, g0c⟩ | exact ⟨cell_gb b0 HG1.out, cell_gb b1 HG1.out, cell_gb b2 HG1.out, cell_gb b3 HG1.out, cell_gb g0c HG1.out⟩ | go_keep)
    ((go_simp; go_at_call 15; refine (HCN.out _ (gb_drew (gb_refl wa none))).mono ?_; rintro e w1 ⟨rfl, hg1⟩; have HG1 := hide (show wa.grownBy w1 none from gb_trans (gb_drew (gb_refl wa none)) hg1 (.inl rfl)); clear hg1))
  go_wp2_with fail
  go_ret
  exact ⟨rfl, gb_trans HG.out HG1.out (.inl rfl)⟩

set_option maxHeartbeats 4000000 in
set_option maxRecDepth 100000 in
theorem lvl_not (m : Int) (g0 g : Nat) (v : Vl) (w : World) (B : Nat) (nA : Option Addr) (nc : Nat) (sA : Option Addr) (sc : Nat) (lA : Option Addr) (lc : Nat) (ht : v.tot ≤ 1100000) (hB : B ≤ w.heap.size) (h : VB w B v nA nc sA sc lA lc) (h0 : w.cell? ⟨g0, 0, none⟩ = some (.int .i64 m)) (hgf : w.cell? ⟨g, 0, none⟩ = some (.func (.func 103) #[] #[.pointer (some ⟨g0, 0, none⟩)])) :
    Calls Try.prog 77 #[.agg #[.int .i64 v.t, .slice nA v.n.length nc, .slice sA v.s.length sc, .slice lA v.l.length lc], .pointer (some ⟨g, 0, none⟩)] w fun e w' => e = .returned (.bool (!lvl m v)) ∧ w.grownBy w' none := by
  obtain ⟨wa, hwa⟩ : ∃ wa, wa = w.alloc (.cells #[.int .i64 v.t, .slice nA v.n.length nc, .slice sA v.s.length sc, .slice lA v.l.length lc] 26) := ⟨_, rfl⟩
  have hgb : w.grownBy wa none := by rw [hwa]; exact gb_alloc (gb_refl w none) _
  have hq := cell_gb hgf hgb
  rw [hwa] at hq
  have HC := hide (lvl_one m g0 v wa B nA nc sA sc lA lc ht (Nat.le_trans hB hgb.size) (h.gb hgb hB) (cell_gb h0 hgb))
  have HG := hide hgb
  have HWE := hide hwa
  clear hwa hgb ht hB h h0 hgf
  generalize lvl m v = b at *
  go_enter Try.func77, Try.ntmps77
  go_wp2_with (go_at_call 103; rw [← HWE.out]; refine HC.out.mono ?_; rintro e w1 ⟨rfl, hg1⟩; have HG1 := hide hg1; clear hg1)
  go_ret
  exact ⟨rfl, gb_trans HG.out HG1.out (.inl rfl)⟩
set_option maxHeartbeats 4000000 in
set_option maxRecDepth 100000 in
theorem lvl_idx (m : Int) (g0 : Nat) (l : List Vl) (w : World) (B : Nat) (A : Option Addr) (c g : Nat) (ht : Vl.tots l ≤ 1100000) (hB : B ≤ w.heap.size) (h : RdV w B A l) (h0 : w.cell? ⟨g0, 0, none⟩ = some (.int .i64 m)) (hg : w.cell? ⟨g, 0, none⟩ = some (.func (.func 103) #[] #[.pointer (some ⟨g0, 0, none⟩)])) :
    Calls Try.prog 87 #[.slice A l.length c, .func (.func 77) #[] #[.pointer (some ⟨g, 0, none⟩)]] w (IdxPost (l.any fun x => !lvl m x) w) := by
  have hl : l.length ≤ 1100000 := Nat.le_trans (Vl.length_le_tots l) ht
  have H := hide h
  have HB := hide hB
  have HT := hide ht
  have HGF := hide hg
  have H0 := hide h0
  clear h hB hg h0 ht
  go_enter Try.func87, Try.ntmps87
  go_wp2_with fail
  go_loopw [8] (fun i wr => ∃ j : Nat, i = .int .i64 (j : Int) ∧ j ≤ l.length ∧ Hid ((l.take j).any (fun x => !lvl m x) = false) ∧ w.grownBy wr none) (fun i _ => l.length - (intOf i).toNat)
  case atStart => exact ⟨0, rfl, Nat.zero_le _, hide (by simp), gb_refl w none⟩
  case round =>
    obtain ⟨j, rfl, hj, HE, hgr⟩ := hrel
    have HGR := hide hgr
    by_cases hlt : j < l.length
    · have hlt1 : (j : Int) < (l.length : Int) := by omega
      obtain ⟨q, o, xA, xc, yA, yc, zA, zc, rfl, hqB, hc4, hvb⟩ := H.out.at_ hlt
      obtain ⟨d0, d1, d2, d3⟩ := hc4.gb hgr
      have HC := hide (lvl_not m g0 g l[j] wr B xA xc yA yc zA zc (Nat.le_trans (Vl.tot_mem (List.getElem_mem hlt)) HT.out) (Nat.le_trans HB.out hgr.size) (hvb.gb hgr HB.out) (cell_gb H0.out hgr) (cell_gb HGF.out hgr))
      have HL := hide (show l.take (j + 1) = l.take j ++ [l[j]] from List.take_succ_eq_append_getElem hlt)
      have HA : Hid (lvl m l[j] = false → (l.any fun x => !lvl m x) = true) := hide (fun h => List.any_eq_true.2 ⟨_, List.getElem_mem hlt, by rw [h]; rfl⟩)
      clear hc4 hvb hgr
      cases hp : lvl m l[j]
      · rw [hp] at HC
        have HA2 := hide (HA.out hp)
        clear hp
        go_wp2_with (go_at_call 77; refine HC.out.mono ?_; rintro e w1 ⟨rfl, hg1⟩; have HG1 := hide hg1; clear hg1)
        go_ret
        exact ⟨j, rfl, by rw [HA2.out]; exact decide_eq_true (by omega), gb_trans HGR.out HG1.out (.inl rfl)⟩
      · rw [hp] at HC
        have HP := hide hp
        clear hp
        go_wp2_with (go_at_call 77; refine HC.out.mono ?_; rintro e w1 ⟨rfl, hg1⟩; have HG1 := hide hg1; clear hg1)
        go_roundw
        case rel => exact ⟨j + 1, by go_num, by omega, hide (by rw [HL.out, List.any_append, HE.out]; simp [HP.out]), gb_trans HGR.out HG1.out (.inl rfl)⟩
        case measure => simp [intOf]; omega
    · have hlt1 : ¬ (j : Int) < (l.length : Int) := by omega
      have HTT := hide (show l.take j = l from List.take_of_length_le (by omega))
      clear hgr
      go_wp2_with fail
      go_ret
      exact ⟨-1, rfl, by have := HE.out; rw [HTT.out] at this; rw [this]; rfl, HGR.out⟩
set_option maxHeartbeats 4000000 in
set_option maxRecDepth 100000 in
theorem lvl_all (m : Int) (g0 : Nat) (l : List Vl) (w : World) (B : Nat) (A : Option Addr) (c : Nat) (ht : Vl.tots l ≤ 1100000) (hB : B ≤ w.heap.size) (h : RdV w B A l) (h0 : w.cell? ⟨g0, 0, none⟩ = some (.int .i64 m)) :
    Calls Try.prog 46 #[.slice A l.length c, .func (.func 103) #[] #[.pointer (some ⟨g0, 0, none⟩)]] w fun e w' => e = .returned (.bool (l.all (lvl m))) ∧ w.grownBy w' none := by
  obtain ⟨wa, hwa⟩ : ∃ wa, wa = w.alloc (.cells #[.func (.func 103) #[] #[.pointer (some ⟨g0, 0, none⟩)]] 37) := ⟨_, rfl⟩
  have hgb : w.grownBy wa none := by rw [hwa]; exact gb_alloc (gb_refl w none) _
  have hcf : wa.cell? ⟨w.heap.size, 0, none⟩ = some (.func (.func 103) #[] #[.pointer (some ⟨g0, 0, none⟩)]) := by rw [hwa, blk_cell (heap_alloc_new w _)]; rfl
  have HI := hide (lvl_idx m g0 l wa B A c w.heap.size ht (Nat.le_trans hB hgb.size) (h.gb hgb hB) (cell_gb h0 hgb) hcf)
  have HAL := hide (show (l.any fun x => !lvl m x) = !l.all (lvl m) by rw [Bool.eq_iff_iff]; simp)
  have HG := hide hgb
  have HWE := hide hwa
  clear hwa hgb hcf h hB h0 ht
  generalize l.all (lvl m) = b at *
  have HCN : Hid (Calls Try.prog 76 #[.slice A l.length c, .func (.func 77) #[] #[.pointer (some ⟨w.heap.size, 0, none⟩)]] wa fun e w' => e = .returned (.bool !b) ∧ wa.grownBy w' none) := hide (by
    go_enter Try.func76, Try.ntmps76
    go_wp2_with (go_at_call 87; refine HI.out.mono ?_; rintro e w1 ⟨r, rfl, hr, hg1⟩; have HR := hide hr; have HG1 := hide hg1; clear hr hg1)
    go_ret
    exact ⟨ret_b (by rw [← HAL.out, ← HR.out]), HG1.out⟩)
  clear HI
  go_enter Try.func46, Try.ntmps46
  go_wp2_with (go_at_call 76; rw [← HWE.out]; refine HCN.out.mono ?_; rintro e w1 ⟨rfl, hg1⟩; have HG1 := hide hg1; clear hg1)
  go_ret
  exact ⟨ret_b (by simp), gb_trans HG.out HG1.out (.inl rfl)⟩

def levelV (v : Vl) : Bool := if v.t = 98 ∨ v.t = 99 then v.l.all (lvl v.count) else true
set_option maxHeartbeats 8000000 in
set_option maxRecDepth 100000 in
theorem level_any (v : Vl) (w : World) (B : Nat) (nA : Option Addr) (nc : Nat) (sA : Option Addr) (sc : Nat) (lA : Option Addr) (lc : Nat) (ht : v.tot ≤ 1100000) (hB : B ≤ w.heap.size) (h : VB w B v nA nc sA sc lA lc) :
    Calls Try.prog 94 #[.agg #[.int .i64 v.t, .slice nA v.n.length nc, .slice sA v.s.length sc, .slice lA v.l.length lc]] w fun e w' => e = .returned (.bool (levelV v)) ∧ w.grownBy w' none := by
  obtain ⟨l1, l2, l3, l4⟩ := Vl.lens v ht
  obtain ⟨wa, hwa⟩ : ∃ wa, wa = w.alloc (.cells #[.int .i64 v.t, .slice nA v.n.length nc, .slice sA v.s.length sc, .slice lA v.l.length lc] 26) := ⟨_, rfl⟩
  have hg : w.grownBy wa none := by rw [hwa]; exact gb_alloc (gb_refl w none) _
  have hc := C4.box w (.int .i64 v.t) (.slice nA v.n.length nc) (.slice sA v.s.length sc) (.slice lA v.l.length lc) 26
  rw [← hwa] at hc
  have b0 : wa.cell? ⟨w.heap.size, 0, none⟩ = some (.int .i64 v.t) := hc.c0
  have b1 : wa.cell? ⟨w.heap.size, 1, none⟩ = some (.slice nA v.n.length nc) := hc.c1
  have b2 : wa.cell? ⟨w.heap.size, 2, none⟩ = some (.slice sA v.s.length sc) := hc.c2
  have b3 : wa.cell? ⟨w.heap.size, 3, none⟩ = some (.slice lA v.l.length lc) := hc.c3
  have hbw := Nat.le_trans hB hg.size
  have HV := hide (h.gb hg hB)
  have HBW := hide hbw
  have HG := hide hg
  have HWE := hide hwa
  have FIN := hide (show w.grownBy (w.alloc (.cells #[.int .i64 v.t, .slice nA v.n.length nc, .slice sA v.s.length sc, .slice lA v.l.length lc] 26)) none from gb_alloc (gb_refl w none) _)
  have HD := hide (show levelV v = if v.t = 98 ∨ v.t = 99 then v.l.all (lvl v.count) else true from rfl)
  have HCN := hide (fun w2 (k : wa.grownBy w2 none) => count_any v w2 B nA nc sA sc lA lc ht (Nat.le_trans hbw k.size) ((h.gb hg hB).gb k hbw))
  have HAL := hide (fun w2 (k : wa.grownBy w2 none) => lvl_all v.count w2.heap.size v.l (w2.alloc (.cells #[.int .i64 (v.count : Nat)] 3)) B lA lc l4 (Nat.le_trans (Nat.le_trans hbw k.size) (by simp)) (((h.gb hg hB).gb k hbw).gb (gb_alloc (gb_refl w2 none) _) (Nat.le_trans hbw k.size)).l (by rw [blk_cell (heap_alloc_new w2 _)]; rfl))
  clear ht hB h hg hwa hc hbw
  by_cases h9 : v.t = 98 ∨ v.t = 99
  · rw [if_pos h9] at HD
    rw [HD.out]
    have hne : (v.t != 98) = false ∨ ((v.t != 98) = true ∧ (v.t != 99) = false) := by
      rcases h9 with h | h
      · exact .inl (int_bne_t h)
      · exact .inr ⟨by rw [h]; rfl, int_bne_t h⟩
    clear h9 HD
    generalize v.l.all (lvl v.count) = r at *
    generalize v.count = k at *
    rcases hne with e1 | ⟨e1, e2⟩
    · go_enter Try.func94, Try.ntmps94
      go_wp2_with fail
      rw [← HWE.out]
      refine (HCN.out wa (gb_refl wa none)).mono ?_
      rintro e w1 ⟨rfl, hg1⟩
      have HG1 := hide hg1
      have c3 := cell_gb b3 (gb_alloc hg1 (.cells #[.int .i64 (k : Nat)] 3))
      clear hg1
      go_wp2_with (go_at_call 46; refine (HAL.out w1 HG1.out).mono ?_; rintro e w2 ⟨rfl, hg2⟩; have HG2 := hide hg2; clear hg2)
      go_ret
      exact ⟨rfl, gb_trans HG.out (gb_trans (gb_alloc HG1.out _) HG2.out (.inl rfl)) (.inl rfl)⟩
    · go_enter Try.func94, Try.ntmps94
      go_wp2_with fail
      rw [← HWE.out]
      refine (HCN.out wa (gb_refl wa none)).mono ?_
      rintro e w1 ⟨rfl, hg1⟩
      have HG1 := hide hg1
      have c3 := cell_gb b3 (gb_alloc hg1 (.cells #[.int .i64 (k : Nat)] 3))
      clear hg1
      go_wp2_with (go_at_call 46; refine (HAL.out w1 HG1.out).mono ?_; rintro e w2 ⟨rfl, hg2⟩; have HG2 := hide hg2; clear hg2)
      go_ret
      exact ⟨rfl, gb_trans HG.out (gb_trans (gb_alloc HG1.out _) HG2.out (.inl rfl)) (.inl rfl)⟩
  · rw [if_neg h9] at HD
    rw [HD.out]
    simp only [not_or] at h9
    have e1 := int_bne_f h9.1
    have e2 := int_bne_f h9.2
    clear h9 HD
    go_enter Try.func94, Try.ntmps94
    go_wp2_with fail
    go_ret
    exact ⟨rfl, FIN.out⟩

mutual
theorem Vl.depth_le_tot : ∀ v : Vl, v.depth ≤ v.tot
  | .mk t n s l => by
    have := Vl.depths_le_tots l
    simp only [Vl.depth, Vl.tot]
    omega
theorem Vl.depths_le_tots : ∀ l : List Vl, Vl.depths l ≤ Vl.tots l
  | [] => by simp [Vl.depths]
  | x :: r => by
    have h1 := Vl.depth_le_tot x
    have h2 := Vl.depths_le_tots r
    simp only [Vl.depths, Vl.tots]
    omega
end
set_option maxHeartbeats 8000000 in
set_option maxRecDepth 100000 in
theorem depth_d (d : Nat) : ∀ (v : Vl) (w : World) (B : Nat) (nA : Option Addr) (nc : Nat) (sA : Option Addr) (sc : Nat) (lA : Option Addr) (lc : Nat), v.depth ≤ d → v.tot ≤ 1100000 → B ≤ w.heap.size → VB w B v nA nc sA sc lA lc →
    Calls Try.prog 23 #[.agg #[.int .i64 v.t, .slice nA v.n.length nc, .slice sA v.s.length sc, .slice lA v.l.length lc]] w fun e w' => e = .returned (.int .i64 (v.depth : Nat)) ∧ w.grownBy w' none := by
  induction d with
  | zero => intro v; intros; rw [Vl.depth_def] at *; omega
  | succ d ih =>
    intro v w B nA nc sA sc lA lc hd ht hB h
    obtain ⟨l1, l2, l3, l4⟩ := Vl.lens v ht
    obtain ⟨wa, hwa⟩ : ∃ wa, wa = w.alloc (.cells #[.int .i64 v.t, .slice nA v.n.length nc, .slice sA v.s.length sc, .slice lA v.l.length lc] 26) := ⟨_, rfl⟩
    have hg : w.grownBy wa none := by rw [hwa]; exact gb_alloc (gb_refl w none) _
    have hc := C4.box w (.int .i64 v.t) (.slice nA v.n.length nc) (.slice sA v.s.length sc) (.slice lA v.l.length lc) 26
    rw [← hwa] at hc
    have b0 : wa.cell? ⟨w.heap.size, 0, none⟩ = some (.int .i64 v.t) := hc.c0
    have b1 : wa.cell? ⟨w.heap.size, 1, none⟩ = some (.slice nA v.n.length nc) := hc.c1
    have b2 : wa.cell? ⟨w.heap.size, 2, none⟩ = some (.slice sA v.s.length sc) := hc.c2
    have b3 : wa.cell? ⟨w.heap.size, 3, none⟩ = some (.slice lA v.l.length lc) := hc.c3
    have hbw := Nat.le_trans hB hg.size
    have HV := hide (h.gb hg hB)
    have HBW := hide hbw
    have HG := hide hg
    have HWE := hide hwa
    have FIN := hide (show w.grownBy (w.alloc (.cells #[.int .i64 v.t, .slice nA v.n.length nc, .slice sA v.s.length sc, .slice lA v.l.length lc] 26)) none from gb_alloc (gb_refl w none) _)
    have IH := hide ih
    have HDD := hide hd
    have HTT := hide ht
    have HDEF := hide (Vl.depth_def v)
    have hdl : ∀ j, Vl.depths (v.l.take j) ≤ 1100000 := fun j => by
      have h1 := Vl.depths_le_tots (v.l.take j)
      have h2 := Vl.tots_take_le v.l j
      omega
    have HDL := hide hdl
    clear ih hd ht hB h hg hwa hc hbw hdl
    go_enter Try.func23, Try.ntmps23
    go_wp2_with fail
    rw [← HWE.out]
    go_loopw [3, 9] (fun n i wr => ∃ j : Nat, i = .int .i64 (j : Int) ∧ j ≤ v.l.length ∧ n = .int .i64 (Vl.depths (v.l.take j) : Nat) ∧ wa.grownBy wr none) (fun _ i _ => v.l.length - (intOf i).toNat)
    case atStart => exact ⟨0, rfl, Nat.zero_le _, rfl, gb_refl wa none⟩
    case round =>
      obtain ⟨j, rfl, hj, rfl, hgr⟩ := hrel
      by_cases hlt : j < v.l.length
      · have hlt1 : (j : Int) < (v.l.length : Int) := by omega
        obtain ⟨q, o, xA, xc, yA, yc, zA, zc, rfl, hqB, hc4, hvb⟩ := HV.out.l.at_ hlt
        obtain ⟨d0, d1, d2, d3⟩ := hc4.gb hgr
        have hga : wr.grownBy (wr.alloc (.cells #[.int .i64 v.l[j].t, .slice xA v.l[j].n.length xc, .slice yA v.l[j].s.length yc, .slice zA v.l[j].l.length zc] 26)) none := gb_alloc (gb_refl wr none) _
        have hgw := gb_trans hgr hga (.inl rfl)
        have HREC := hide (IH.out v.l[j] _ B xA xc yA yc zA zc (Vl.depth_part HDD.out (List.getElem_mem hlt)) (Vl.tot_part HTT.out (List.getElem_mem hlt)) (Nat.le_trans HBW.out hgw.size) (hvb.gb hgw HBW.out))
        have HGW := hide hgw
        have HTK := hide (Vl.depths_take v.l j hlt)
        have hdb := HDL.out j
        have hdx : v.l[j].depth ≤ 1100000 := by have := HDL.out (j + 1); rw [HTK.out] at this; omega
        clear hc4 hvb hgr hga hgw
        generalize v.l[j].depth = x at *
        generalize Vl.depths (v.l.take j) = y at *
        by_cases hxy : x ≤ y
        · have hm : max (y : Int) (x : Int) = (y : Int) := by omega
          have HM := hide (show max y x = y by omega)
          clear hxy
          go_wp2_with (go_at_call 23; refine HREC.out.mono ?_; rintro e w1 ⟨rfl, hg1⟩; have HG1 := hide hg1; clear hg1)
          go_roundw
          case rel => exact ⟨j + 1, by go_num, by omega, by rw [HTK.out, HM.out], gb_trans HGW.out HG1.out (.inl rfl)⟩
          case measure => simp [intOf]; omega
        · have hm : max (y : Int) (x : Int) = (x : Int) := by omega
          have HM := hide (show max y x = x by omega)
          clear hxy
          go_wp2_with (go_at_call 23; refine HREC.out.mono ?_; rintro e w1 ⟨rfl, hg1⟩; have HG1 := hide hg1; clear hg1)
          go_roundw
          case rel => exact ⟨j + 1, by go_num, by omega, by rw [HTK.out, HM.out], gb_trans HGW.out HG1.out (.inl rfl)⟩
          case measure => simp [intOf]; omega
      · have hlt1 : ¬ (j : Int) < (v.l.length : Int) := by omega
        have HTE := hide (show v.l.take j = v.l from List.take_of_length_le (by omega))
        have hdb := HDL.out j
        rw [HTE.out] at hdb ⊢
        have HGR := hide hgr
        have HR : Hid (1 + (Vl.depths v.l : Int) = (v.depth : Nat)) := hide (by rw [HDEF.out]; omega)
        clear hgr
        generalize Vl.depths v.l = y at *
        go_wp2_with fail
        go_ret
        exact ⟨ret_i HR.out, gb_trans HG.out HGR.out (.inl rfl)⟩
theorem depth_any (v : Vl) (w : World) (B : Nat) (nA : Option Addr) (nc : Nat) (sA : Option Addr) (sc : Nat) (lA : Option Addr) (lc : Nat) (ht : v.tot ≤ 1100000) (hB : B ≤ w.heap.size) (h : VB w B v nA nc sA sc lA lc) :
    Calls Try.prog 23 #[.agg #[.int .i64 v.t, .slice nA v.n.length nc, .slice sA v.s.length sc, .slice lA v.l.length lc]] w fun e w' => e = .returned (.int .i64 (v.depth : Nat)) ∧ w.grownBy w' none := depth_d v.depth v w B nA nc sA sc lA lc (Nat.le_refl _) ht hB h
end Go.Proofs.Ytfckmkpfhchggaa
