/-
  formed; the first error; Check.
-/
import Derived.Test.YtniliccobkhnlaaVz
namespace Go.Proofs.Ytniliccobkhnlaa
open Go.RowKit
attribute [local go_sem ↓] Go.wp_at_zero Go.wp_at_succ

set_option maxHeartbeats 8000000 in
set_option maxRecDepth 100000 in
theorem formed_int (v : Vl) (w : World) (B : Nat) (nA : Option Addr) (nc : Nat) (sA : Option Addr) (sc : Nat) (lA : Option Addr) (lc : Nat) (htab : v.t = 2) (ht : v.tot ≤ 1100000) (hB : B ≤ w.heap.size) (h : VB w B v nA nc sA sc lA lc) :
    Calls Try.prog 93 #[.agg #[.int .i64 v.t, .slice nA v.n.length nc, .slice sA v.s.length sc, .slice lA v.l.length lc]] w fun e w' => e = .returned (.bool true) ∧ w.grownBy w' none := by
  obtain ⟨l1, l2, l3, l4⟩ := Vl.lens v ht
  obtain ⟨wa, hwa⟩ : ∃ wa, wa = w.alloc (.cells #[.int .i64 v.t, .slice nA v.n.length nc, .slice sA v.s.length sc, .slice lA v.l.length lc] 26) := ⟨_, rfl⟩
  have hg : w.grownBy wa none := by rw [hwa]; exact gb_alloc (gb_refl w none) _
  have hc := C4.box w (.int .i64 v.t) (.slice nA v.n.length nc) (.slice sA v.s.length sc) (.slice lA v.l.length lc) 26
  rw [← hwa] at hc
  have b0 : wa.cell? ⟨w.heap.size, 0, none⟩ = some (.int .i64 v.t) := hc.c0
  have b1 : wa.cell? ⟨w.heap.size, 1, none⟩ = some (.slice nA v.n.length nc) := hc.c1
  have b2 : wa.cell? ⟨w.heap.size, 2, none⟩ = some (.slice sA v.s.length sc) := hc.c2
  have b3 : wa.cell? ⟨w.heap.size, 3, none⟩ = some (.slice lA v.l.length lc) := hc.c3
  have hbw := Nat.le_trans hB hg.size
  have HV := hide (h.gb hg hB)
  have HBW := hide hbw
  have HG := hide hg
  have HWE := hide hwa
  have FIN := hide (show w.grownBy (w.alloc (.cells #[.int .i64 v.t, .slice nA v.n.length nc, .slice sA v.s.length sc, .slice lA v.l.length lc] 26)) none from gb_alloc (gb_refl w none) _)
  have HIA := hide (fun w2 => isAtom_any v.t (.slice nA v.n.length nc) (.slice sA v.s.length sc) (.slice lA v.l.length lc) w2)
  have hat : atomT v.t = false := by rw [htab]; rfl
  rw [hat] at HIA
  have e_1 : (v.t == 1) = false := by rw [htab]; rfl
  have e_m1 : (v.t == -1) = false := by rw [htab]; rfl
  have e_3 : (v.t == 3) = false := by rw [htab]; rfl
  have e_m3 : (v.t == -3) = false := by rw [htab]; rfl
  have e_0 : (v.t == 0) = false := by rw [htab]; rfl
  have e_98 : (v.t == 98) = false := by rw [htab]; rfl
  have e_99 : (v.t == 99) = false := by rw [htab]; rfl
  have e_100 : (v.t == 100) = false := by rw [htab]; rfl
  clear ht hB h hg hwa hc hbw htab hat
  go_enter Try.func93, Try.ntmps93
  go_wp2_with fail
  rw [← HWE.out]
  refine (HIA.out wa).mono ?_
  rintro e w1 ⟨rfl, hg1⟩
  have c0 := cell_gb b0 hg1
  have HG1 := hide hg1
  clear hg1
  go_wp2_with fail
  go_ret
  exact ⟨rfl, gb_trans HG.out HG1.out (.inl rfl)⟩
set_option maxHeartbeats 8000000 in
set_option maxRecDepth 100000 in
theorem formed_sym (v : Vl) (w : World) (B : Nat) (nA : Option Addr) (nc : Nat) (sA : Option Addr) (sc : Nat) (lA : Option Addr) (lc : Nat) (htab : v.t = 3) (hz : v.s.any hasZ = false) (ht : v.tot ≤ 1100000) (hB : B ≤ w.heap.size) (h : VB w B v nA nc sA sc lA lc) :
    Calls Try.prog 93 #[.agg #[.int .i64 v.t, .slice nA v.n.length nc, .slice sA v.s.length sc, .slice lA v.l.length lc]] w fun e w' => e = .returned (.bool true) ∧ w.grownBy w' none := by
  obtain ⟨l1, l2, l3, l4⟩ := Vl.lens v ht
  obtain ⟨wa, hwa⟩ : ∃ wa, wa = w.alloc (.cells #[.int .i64 v.t, .slice nA v.n.length nc, .slice sA v.s.length sc, .slice lA v.l.length lc] 26) := ⟨_, rfl⟩
  have hg : w.grownBy wa none := by rw [hwa]; exact gb_alloc (gb_refl w none) _
  have hc := C4.box w (.int .i64 v.t) (.slice nA v.n.length nc) (.slice sA v.s.length sc) (.slice lA v.l.length lc) 26
  rw [← hwa] at hc
  have b0 : wa.cell? ⟨w.heap.size, 0, none⟩ = some (.int .i64 v.t) := hc.c0
  have b1 : wa.cell? ⟨w.heap.size, 1, none⟩ = some (.slice nA v.n.length nc) := hc.c1
  have b2 : wa.cell? ⟨w.heap.size, 2, none⟩ = some (.slice sA v.s.length sc) := hc.c2
  have b3 : wa.cell? ⟨w.heap.size, 3, none⟩ = some (.slice lA v.l.length lc) := hc.c3
  have hbw := Nat.le_trans hB hg.size
  have HV := hide (h.gb hg hB)
  have HBW := hide hbw
  have HG := hide hg
  have HWE := hide hwa
  have FIN := hide (show w.grownBy (w.alloc (.cells #[.int .i64 v.t, .slice nA v.n.length nc, .slice sA v.s.length sc, .slice lA v.l.length lc] 26)) none from gb_alloc (gb_refl w none) _)
  have HIA := hide (fun w2 => isAtom_any v.t (.slice nA v.n.length nc) (.slice sA v.s.length sc) (.slice lA v.l.length lc) w2)
  have hat : atomT v.t = false := by rw [htab]; rfl
  rw [hat] at HIA
  have HZ := hide (fun w2 (k : wa.grownBy w2 none) => hasZ_has v.s w2 B sA sc l2 (Nat.le_trans hbw k.size) ((h.gb hg hB).gb k hbw).s)
  rw [hz] at HZ
  have e_1 : (v.t == 1) = false := by rw [htab]; rfl
  have e_m1 : (v.t == -1) = false := by rw [htab]; rfl
  have e_3 : (v.t == 3) = true := by rw [htab]; rfl
  have e_m3 : (v.t == -3) = false := by rw [htab]; rfl
  have e_0 : (v.t == 0) = false := by rw [htab]; rfl
  have e_98 : (v.t == 98) = false := by rw [htab]; rfl
  have e_99 : (v.t == 99) = false := by rw [htab]; rfl
  have e_100 : (v.t == 100) = false := by rw [htab]; rfl
  clear ht hB h hg hwa hc hbw htab hat hz
  go_enter Try.func93, Try.ntmps93
  go_wp2_with fail
  rw [← HWE.out]
  refine (HIA.out wa).mono ?_
  rintro e w1 ⟨rfl, hg1⟩
  have c0 := cell_gb b0 hg1
  have c2 := cell_gb b2 hg1
  have HG1 := hide hg1
  clear hg1
  go_wp2_with (go_at_call 96; refine (HZ.out w1 HG1.out).mono ?_; rintro e w2 ⟨rfl, hg2⟩; have HG2 := hide hg2; clear hg2)
  go_ret
  exact ⟨rfl, gb_trans HG.out (gb_trans HG1.out HG2.out (.inl rfl)) (.inl rfl)⟩
set_option maxHeartbeats 8000000 in
set_option maxRecDepth 100000 in
theorem formed_tab (v : Vl) (w : World) (B : Nat) (nA : Option Addr) (nc : Nat) (sA : Option Addr) (sc : Nat) (lA : Option Addr) (lc : Nat) (htab : v.t = 98) (hnm : nmOk v.s = true) (hls : v.l.length = v.s.length) (hsq : v.l.all isSeq = true) (ht : v.tot ≤ 1100000) (hB : B ≤ w.heap.size) (h : VB w B v nA nc sA sc lA lc) :
    Calls Try.prog 93 #[.agg #[.int .i64 v.t, .slice nA v.n.length nc, .slice sA v.s.length sc, .slice lA v.l.length lc]] w fun e w' => e = .returned (.bool true) ∧ w.grownBy w' none := by
  obtain ⟨l1, l2, l3, l4⟩ := Vl.lens v ht
  obtain ⟨wa, hwa⟩ : ∃ wa, wa = w.alloc (.cells #[.int .i64 v.t, .slice nA v.n.length nc, .slice sA v.s.length sc, .slice lA v.l.length lc] 26) := ⟨_, rfl⟩
  have hg : w.grownBy wa none := by rw [hwa]; exact gb_alloc (gb_refl w none) _
  have hc := C4.box w (.int .i64 v.t) (.slice nA v.n.length nc) (.slice sA v.s.length sc) (.slice lA v.l.length lc) 26
  rw [← hwa] at hc
  have b0 : wa.cell? ⟨w.heap.size, 0, none⟩ = some (.int .i64 v.t) := hc.c0
  have b1 : wa.cell? ⟨w.heap.size, 1, none⟩ = some (.slice nA v.n.length nc) := hc.c1
  have b2 : wa.cell? ⟨w.heap.size, 2, none⟩ = some (.slice sA v.s.length sc) := hc.c2
  have b3 : wa.cell? ⟨w.heap.size, 3, none⟩ = some (.slice lA v.l.length lc) := hc.c3
  have hbw := Nat.le_trans hB hg.size
  have HV := hide (h.gb hg hB)
  have HBW := hide hbw
  have HG := hide hg
  have HWE := hide hwa
  have FIN := hide (show w.grownBy (w.alloc (.cells #[.int .i64 v.t, .slice nA v.n.length nc, .slice sA v.s.length sc, .slice lA v.l.length lc] 26)) none from gb_alloc (gb_refl w none) _)
  have HIA := hide (fun w2 => isAtom_any v.t (.slice nA v.n.length nc) (.slice sA v.s.length sc) (.slice lA v.l.length lc) w2)
  have hat : atomT v.t = false := by rw [htab]; rfl
  rw [hat] at HIA
  have HNM := hide (fun w2 (k : wa.grownBy w2 none) => names_any v.s w2 B sA sc l2 h.hs (Nat.le_trans hbw k.size) ((h.gb hg hB).gb k hbw).s)
  have HSQ := hide (fun w2 (k : wa.grownBy w2 none) => isSeq_all v.l w2 B lA lc l3 (Nat.le_trans hbw k.size) ((h.gb hg hB).gb k hbw).l)
  rw [hnm] at HNM
  rw [hsq] at HSQ
  have els : ((v.l.length : Int) == (v.s.length : Int)) = true := beq_iff_eq.2 (by omega)
  have e_1 : (v.t == 1) = false := by rw [htab]; rfl
  have e_m1 : (v.t == -1) = false := by rw [htab]; rfl
  have e_3 : (v.t == 3) = false := by rw [htab]; rfl
  have e_m3 : (v.t == -3) = false := by rw [htab]; rfl
  have e_0 : (v.t == 0) = false := by rw [htab]; rfl
  have e_98 : (v.t == 98) = true := by rw [htab]; rfl
  have e_99 : (v.t == 99) = false := by rw [htab]; rfl
  have e_100 : (v.t == 100) = false := by rw [htab]; rfl
  clear ht hB h hg hwa hc hbw htab hat hnm hls hsq
  go_enter Try.func93, Try.ntmps93
  go_wp2_with fail
  rw [← HWE.out]
  refine (HIA.out wa).mono ?_
  rintro e w1 ⟨rfl, hg1⟩
  have c0 := cell_gb b0 hg1
  have c2 := cell_gb b2 hg1
  have c3 := cell_gb b3 hg1
  have HG1 := hide hg1
  clear hg1
  go_wp2_with (first
    | (go_at_call 102; refine (HNM.out w1 HG1.out).mono ?_; rintro e w2 ⟨rfl, hg2⟩; have f2 := cell_gb c2 hg2; have f3 := cell_gb c3 hg2; have HG2 := hide (gb_trans HG1.out hg2 (.inl rfl)); clear hg2)
    | (go_at_call 46; refine (HSQ.out w2 HG2.out).mono ?_; rintro e w3 ⟨rfl, hg3⟩; have HG3 := hide (gb_trans HG2.out hg3 (.inl rfl)); clear hg3))
  go_ret
  exact ⟨rfl, gb_trans HG.out HG3.out (.inl rfl)⟩

/-- formed says yes. -/
def FormedYes (v : Vl) : Prop := ∀ (w : World) (B : Nat) (nA : Option Addr) (nc : Nat) (sA : Option Addr) (sc : Nat) (lA : Option Addr) (lc : Nat), B ≤ w.heap.size → VB w B v nA nc sA sc lA lc →
    Calls Try.prog 93 #[.agg #[.int .i64 v.t, .slice nA v.n.length nc, .slice sA v.s.length sc, .slice lA v.l.length lc]] w fun e w' => e = .returned (.bool true) ∧ w.grownBy w' none
set_option maxHeartbeats 8000000 in
set_option maxRecDepth 100000 in
theorem own_good (v : Vl) (w : World) (B : Nat) (nA : Option Addr) (nc : Nat) (sA : Option Addr) (sc : Nat) (lA : Option Addr) (lc : Nat) (h1 : named v = true) (h2 : manyV v = false) (h3 : tooLongV v = false) (h4 : FormedYes v) (h5 : levelV v = true) (ht : v.tot ≤ 1100000) (hB : B ≤ w.heap.size) (h : VB w B v nA nc sA sc lA lc) :
    Calls Try.prog 82 #[.agg #[.int .i64 v.t, .slice nA v.n.length nc, .slice sA v.s.length sc, .slice lA v.l.length lc]] w fun e w' => e = .returned (.int .i64 0) ∧ w.grownBy w' none := by
  obtain ⟨l1, l2, l3, l4⟩ := Vl.lens v ht
  obtain ⟨wa, hwa⟩ : ∃ wa, wa = w.alloc (.cells #[.int .i64 v.t, .slice nA v.n.length nc, .slice sA v.s.length sc, .slice lA v.l.length lc] 26) := ⟨_, rfl⟩
  have hg : w.grownBy wa none := by rw [hwa]; exact gb_alloc (gb_refl w none) _
  have hc := C4.box w (.int .i64 v.t) (.slice nA v.n.length nc) (.slice sA v.s.length sc) (.slice lA v.l.length lc) 26
  rw [← hwa] at hc
  have b0 : wa.cell? ⟨w.heap.size, 0, none⟩ = some (.int .i64 v.t) := hc.c0
  have b1 : wa.cell? ⟨w.heap.size, 1, none⟩ = some (.slice nA v.n.length nc) := hc.c1
  have b2 : wa.cell? ⟨w.heap.size, 2, none⟩ = some (.slice sA v.s.length sc) := hc.c2
  have b3 : wa.cell? ⟨w.heap.size, 3, none⟩ = some (.slice lA v.l.length lc) := hc.c3
  have hbw := Nat.le_trans hB hg.size
  have HV := hide (h.gb hg hB)
  have HBW := hide hbw
  have HG := hide hg
  have HWE := hide hwa
  have FIN := hide (show w.grownBy (w.alloc (.cells #[.int .i64 v.t, .slice nA v.n.length nc, .slice sA v.s.length sc, .slice lA v.l.length lc] 26)) none from gb_alloc (gb_refl w none) _)
  have H1 := hide (fun w2 => named_any v nA nc sA sc lA lc w2 ht)
  have H2 := hide (fun w2 (k : wa.grownBy w2 none) => many_any v w2 B nA nc sA sc lA lc ht (Nat.le_trans hbw k.size) ((h.gb hg hB).gb k hbw))
  have H3 := hide (fun w2 (k : wa.grownBy w2 none) => tooLong_any v w2 B nA nc sA sc lA lc ht (Nat.le_trans hbw k.size) ((h.gb hg hB).gb k hbw))
  have H4 := hide (fun w2 (k : wa.grownBy w2 none) => h4 w2 B nA nc sA sc lA lc (Nat.le_trans hbw k.size) ((h.gb hg hB).gb k hbw))
  have H5 := hide (fun w2 (k : wa.grownBy w2 none) => level_any v w2 B nA nc sA sc lA lc ht (Nat.le_trans hbw k.size) ((h.gb hg hB).gb k hbw))
  rw [h1] at H1
  rw [h2] at H2
  rw [h3] at H3
  rw [h5] at H5
  clear ht hB h hg hwa hc hbw h1 h2 h3 h4 h5
  go_enter Try.func82, Try.ntmps82
  go_wp2_with (first
    | (go_at_call 90; rw [← HWE.out]; refine (H1.out wa).mono ?_; rintro e w1 ⟨rfl, hg1⟩; have b0 := cell_gb b0 hg1; have b1 := cell_gb b1 hg1; have b2 := cell_gb b2 hg1; have b3 := cell_gb b3 hg1; have HG1 := hide hg1; clear hg1)
    | (go_at_call 91; refine (H2.out w1 HG1.out).mono ?_; rintro e w2 ⟨rfl, hg2⟩; have b0 := cell_gb b0 hg2; have b1 := cell_gb b1 hg2; have b2 := cell_gb b2 hg2; have b3 := cell_gb b3 hg2; have HG2 := hide (gb_trans HG1.out hg2 (.inl rfl)); clear hg2)
    | (go_at_call 92; refine (H3.out w2 HG2.out).mono ?_; rintro e w3 ⟨rfl, hg3⟩; have b0 := cell_gb b0 hg3; have b1 := cell_gb b1 hg3; have b2 := cell_gb b2 hg3; have b3 := cell_gb b3 hg3; have HG3 := hide (gb_trans HG2.out hg3 (.inl rfl)); clear hg3)
    | (go_at_call 93; refine (H4.out w3 HG3.out).mono ?_; rintro e w4 ⟨rfl, hg4⟩; have b0 := cell_gb b0 hg4; have b1 := cell_gb b1 hg4; have b2 := cell_gb b2 hg4; have b3 := cell_gb b3 hg4; have HG4 := hide (gb_trans HG3.out hg4 (.inl rfl)); clear hg4)
    | (go_at_call 94; refine (H5.out w4 HG4.out).mono ?_; rintro e w5 ⟨rfl, hg5⟩; have HG5 := hide (gb_trans HG4.out hg5 (.inl rfl)); clear hg5))
  go_ret
  exact ⟨rfl, gb_trans HG.out HG5.out (.inl rfl)⟩
end Go.Proofs.Ytniliccobkhnlaa
