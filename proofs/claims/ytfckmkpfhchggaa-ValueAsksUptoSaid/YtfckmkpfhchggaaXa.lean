/-
  The law that what is answered shares nothing: its walk.
-/
import Derived.Test.YtfckmkpfhchggaaWz
import Derived.Test.YtfckmkpfhchggaaWy
import Derived.Test.YtfckmkpfhchggaaVa
import Derived.Test.YtfckmkpfhchggaaWl
import Derived.Deep.CutBlock
import Derived.Deep.DeepCutAuto
namespace Go.Proofs.Ytfckmkpfhchggaa
open Go.RowKit
attribute [local go_sem ↓] Go.wp_at_zero Go.wp_at_succ

theorem rClone_any (v : Vl) (w : World) (B : Nat) (nA : Option Addr) (nc : Nat) (sA : Option Addr) (sc : Nat) (lA : Option Addr) (lc : Nat) (ht : v.tot ≤ 1100000) (hB : B ≤ w.heap.size) (h : VB w B v nA nc sA sc lA lc) :
    Calls Try.prog 35 #[.agg #[.int .i64 v.t, .slice nA v.n.length nc, .slice sA v.s.length sc, .slice lA v.l.length lc]] w (NewV v w) := rClone_d v.depth v w B nA nc sA sc lA lc (Nat.le_refl _) ht hB h

/-- A value beside blocks that were written. -/
theorem VOw.wrote {w w' : World} {v : Vl} {cs : List Value} {f g : List Nat} (h : VOw w v cs f) (hw : Wrote w w' g) (hd : ∀ b ∈ f, b ∉ g) : VOw w' v cs f :=
  VOw.keep _ _ _ h fun b hb => hw.block b (VOw.lt _ _ _ h b hb) (hd b hb)

set_option maxHeartbeats 8000000 in
set_option maxRecDepth 100000 in
theorem apart_any (v : Vl) (i : Int) (w : World) (nA : Option Addr) (nc : Nat) (sA : Option Addr) (sc : Nat) (lA : Option Addr) (lc : Nat) (ht : v.tot ≤ 1100000) (h : VB w w.heap.size v nA nc sA sc lA lc) :
    Calls Try.prog 6 #[.agg #[.int .i64 v.t, .slice nA v.n.length nc, .slice sA v.s.length sc, .slice lA v.l.length lc], .int .i64 i] w fun e w' => e = .returned (.bool true) ∧ w.grownBy w' none := by
  obtain ⟨wa, hwa⟩ : ∃ wa, wa = w.alloc (.cells #[.int .i64 v.t, .slice nA v.n.length nc, .slice sA v.s.length sc, .slice lA v.l.length lc] 26) := ⟨_, rfl⟩
  have hg : w.grownBy wa none := by rw [hwa]; exact gb_alloc (gb_refl w none) _
  have hc := C4.box w (.int .i64 v.t) (.slice nA v.n.length nc) (.slice sA v.s.length sc) (.slice lA v.l.length lc) 26
  rw [← hwa] at hc
  have b0 : wa.cell? ⟨w.heap.size, 0, none⟩ = some (.int .i64 v.t) := hc.c0
  have b1 : wa.cell? ⟨w.heap.size, 1, none⟩ = some (.slice nA v.n.length nc) := hc.c1
  have b2 : wa.cell? ⟨w.heap.size, 2, none⟩ = some (.slice sA v.s.length sc) := hc.c2
  have b3 : wa.cell? ⟨w.heap.size, 3, none⟩ = some (.slice lA v.l.length lc) := hc.c3
  have HC := hide hc
  have hva := h.gb hg (Nat.le_refl _)
  have hvb : VB wa wa.heap.size v nA nc sA sc lA lc := hva.up hg.size
  have HV := hide hvb
  have HU : Hid (Calls Try.prog 7 #[.slice (some ⟨w.heap.size + 1, 0, none⟩) 1 1] (wa.alloc (.cells #[.int .i64 v.t, .slice nA v.n.length nc, .slice sA v.s.length sc, .slice lA v.l.length lc] 26)) fun e w' => e = .returned (.bool (hugeV [v])) ∧ (wa.alloc (.cells #[.int .i64 v.t, .slice nA v.n.length nc, .slice sA v.s.length sc, .slice lA v.l.length lc] 26)).grownBy w' none) := hide (by
    have hsa : wa.heap.size = w.heap.size + 1 := by rw [hwa]; simp
    have hx := hugeV_any [v] (some ⟨wa.heap.size, 0, none⟩) 1 (wa.heap.size + 1) (wa.alloc (.cells #[.int .i64 v.t, .slice nA v.n.length nc, .slice sA v.s.length sc, .slice lA v.l.length lc] 26)) (by simp only [Vl.tots]; omega) (by simp) (RdV.lit1 hvb.at_)
    rw [hsa] at hx
    exact hx)
  have HCH := hide (fun w2 (k : wa.grownBy w2 none) => rCheck_any v w2 w2.heap.size nA nc sA sc lA lc ht (Nat.le_refl _) ((hvb.gb k (Nat.le_refl _)).up k.size))
  have HG := hide hg
  have HWE := hide hwa
  have hh : hugeV [v] = true ↔ 70000 < v.tot := ⟨fun h => by have := of_decide_eq_true h; simpa [Vl.tots] using this, fun h => decide_eq_true (by simpa [Vl.tots] using h)⟩
  clear h hg hwa hc hva hvb
  by_cases hhu : hugeV [v] = true
  · rw [hhu] at HU
    clear hh hhu
    go_enter Try.func6, Try.ntmps6
    go_wp2_with fail
    rw [← HWE.out]
    go_wp2_with (first
      | (go_at_call 7; refine HU.out.mono ?_; rintro e w1 ⟨rfl, hg1⟩; have HG1 := hide (gb_trans (gb_alloc (gb_refl wa none) _) hg1 (.inl rfl)); clear hg1)
      | (go_at_call 9; refine (live_any _).mono ?_; rintro e w2 ⟨rfl, hg2⟩; have HG2 := hide hg2; clear hg2))
    go_ret
    exact ⟨rfl, gb_trans HG.out (gb_trans HG1.out HG2.out (.inl rfl)) (.inl rfl)⟩
  · have hhf : hugeV [v] = false := Bool.eq_false_iff.2 hhu
    have HT := hide (show v.tot ≤ 70000 by
      exact Nat.le_of_not_lt (fun h => hhu (hh.2 h)))
    rw [hhf] at HU
    clear hh hhu hhf
    generalize checkV v = z at *
    by_cases hz : z = 0
    · have hz1 : (z != 0) = false := int_bne_t hz
      clear hz
      go_enter Try.func6, Try.ntmps6
      go_wp2_with fail
      rw [← HWE.out]
      go_upto_region 3 with (first
        | (go_at_call 7; refine HU.out.mono ?_; rintro e w1 ⟨rfl, hg1⟩; have HG1 := hide (gb_trans (gb_alloc (gb_refl wa none) _) hg1 (.inl rfl)); have b0 := cell_gb b0 HG1.out; have b1 := cell_gb b1 HG1.out; have b2 := cell_gb b2 HG1.out; have b3 := cell_gb b3 HG1.out; clear hg1)
        | (go_at_call 8; refine (HCH.out w1 HG1.out).mono ?_; rintro e w2 ⟨rfl, hg2⟩; have HG2 := hide (gb_trans HG1.out hg2 (.inl rfl)); clear hg2))
      have hvw2 := HV.out.gb HG2.out (Nat.le_refl _)
      have HT1 := HT.out
      have HRC := hide (rClone_any v w2 wa.heap.size nA nc sA sc lA lc (by omega) HG2.out.size hvw2)
      clear b0 b1 b2 b3 hvw2 HT1 HU HCH
      obtain ⟨k0, k1, k2, k3⟩ := HC.out.gb HG2.out
      go_upto_region 4 with (go_at_call 35; refine HRC.out.mono ?_; rintro e w3 ⟨nAW, ncW, sAW, scW, lAW, lcW, fW, rfl, hoW, hnW, hg3⟩; have HOW := hide hoW; have HNW := hide hnW; have HG3 := hide hg3; clear hoW hnW hg3)
      obtain ⟨w4, hw4⟩ : ∃ w4, w4 = w3.alloc (.cells #[.int .i64 v.t, .slice nAW v.n.length ncW, .slice sAW v.s.length scW, .slice lAW v.l.length lcW] 26) := ⟨_, rfl⟩
      have hcw4 := C4.box w3 (.int .i64 v.t) (.slice nAW v.n.length ncW) (.slice sAW v.s.length scW) (.slice lAW v.l.length lcW) 26
      rw [← hw4] at hcw4 ⊢
      have HGw4 := hide (show w3.grownBy w4 none by rw [hw4]; exact gb_alloc (gb_refl w3 none) _)
      have HSw4 := hide (show w4.heap.size = w3.heap.size + 1 by rw [hw4]; simp)
      have HCW := hide hcw4
      clear hcw4 hw4
      have HA4 := hide (gb_trans HG2.out (gb_trans HG3.out HGw4.out (.inl rfl)) (.inl rfl))
      have HT1 := HT.out
      have HCL := hide (vClone_any v w4 wa.heap.size nA nc sA sc lA lc (by omega) HA4.out.size (HV.out.gb HA4.out (Nat.le_refl _)))
      clear k0 k1 k2 k3 HT1 HRC
      obtain ⟨k0, k1, k2, k3⟩ := HC.out.gb HA4.out
      go_upto_region 5 with (go_at_call 27; refine HCL.out.mono ?_; rintro e w5 ⟨nAC, ncC, sAC, scC, lAC, lcC, fC, rfl, hoC, hnC, hg5⟩; have HOC := hide hoC; have HNC := hide hnC; have HG5 := hide hg5; clear hoC hnC hg5)
      obtain ⟨w6, hw6⟩ : ∃ w6, w6 = w5.alloc (.cells #[.int .i64 v.t, .slice nAC v.n.length ncC, .slice sAC v.s.length scC, .slice lAC v.l.length lcC] 26) := ⟨_, rfl⟩
      have hcw6 := C4.box w5 (.int .i64 v.t) (.slice nAC v.n.length ncC) (.slice sAC v.s.length scC) (.slice lAC v.l.length lcC) 26
      rw [← hw6] at hcw6 ⊢
      have HGw6 := hide (show w5.grownBy w6 none by rw [hw6]; exact gb_alloc (gb_refl w5 none) _)
      have HSw6 := hide (show w6.heap.size = w5.heap.size + 1 by rw [hw6]; simp)
      have HCC := hide hcw6
      clear hcw6 hw6
      have HA6 := hide (gb_trans HA4.out (gb_trans HG5.out HGw6.out (.inl rfl)) (.inl rfl))
      have HT1 := HT.out
      have HAT := hide (at_one v i w6 wa.heap.size nA nc sA sc lA lc (by omega) HA6.out.size (HV.out.gb HA6.out (Nat.le_refl _)))
      clear k0 k1 k2 k3 HT1 HCL
      obtain ⟨k0, k1, k2, k3⟩ := HC.out.gb HA6.out
      go_upto_region 6 with (go_at_call 10; refine HAT.out.mono ?_; rintro e w7 ⟨x, kx, nAX, ncX, sAX, scX, lAX, lcX, fX, rfl, hoX, hnX, hg7, hxt⟩; have HOX := hide hoX; have HNX := hide hnX; have HG7 := hide hg7; have HXT := hide hxt; clear hoX hnX hg7 hxt)
      obtain ⟨w8, hw8⟩ : ∃ w8, w8 = w7.alloc (.cells #[.int .i64 x.t, .slice nAX x.n.length ncX, .slice sAX x.s.length scX, .slice lAX x.l.length lcX] 26) := ⟨_, rfl⟩
      have hcw8 := C4.box w7 (.int .i64 x.t) (.slice nAX x.n.length ncX) (.slice sAX x.s.length scX) (.slice lAX x.l.length lcX) 26
      rw [← hw8] at hcw8 ⊢
      have HGw8 := hide (show w7.grownBy w8 none by rw [hw8]; exact gb_alloc (gb_refl w7 none) _)
      have HSw8 := hide (show w8.heap.size = w7.heap.size + 1 by rw [hw8]; simp)
      have HCX := hide hcw8
      clear hcw8 hw8
      have HA8 := hide (gb_trans HA6.out (gb_trans HG7.out HGw8.out (.inl rfl)) (.inl rfl))
      have hv8 := (HV.out.gb HA8.out (Nat.le_refl _)).up HA8.out.size
      have HT1 := HT.out
      have HOF : Hid (Calls Try.prog 34 #[.slice (some ⟨w8.heap.size, 0, none⟩) 2 2] (w8.alloc (.cells #[.int .i64 v.t, .slice nA v.n.length nc, .slice sA v.s.length sc, .slice lA v.l.length lc, .int .i64 v.t, .slice nA v.n.length nc, .slice sA v.s.length sc, .slice lA v.l.length lc] 26)) (NewV (ofV [v, v]) (w8.alloc (.cells #[.int .i64 v.t, .slice nA v.n.length nc, .slice sA v.s.length sc, .slice lA v.l.length lc, .int .i64 v.t, .slice nA v.n.length nc, .slice sA v.s.length sc, .slice lA v.l.length lc] 26)))) := hide (of_any [v, v] (w8.alloc (.cells #[.int .i64 v.t, .slice nA v.n.length nc, .slice sA v.s.length sc, .slice lA v.l.length lc, .int .i64 v.t, .slice nA v.n.length nc, .slice sA v.s.length sc, .slice lA v.l.length lc] 26)) (w8.heap.size + 1) (some ⟨w8.heap.size, 0, none⟩) 2 (by simp only [Vl.tots]; omega) (by simp) (RdV.lit2 hv8.at_ hv8.at_))
      have HOT := hide (show (ofV [v, v]).tot ≤ 1100000 by
        have := ofV_tot [v, v]
        simp only [Vl.tots] at this
        omega)
      clear k0 k1 k2 k3 HT1 hv8 HAT
      obtain ⟨k0, k1, k2, k3⟩ := HC.out.gb HA8.out
      generalize ofV [v, v] = ov at *
      go_upto_region 7 with (go_at_call 34; refine HOF.out.mono ?_; rintro e w9 ⟨nAO, ncO, sAO, scO, lAO, lcO, fO, rfl, hoO, hnO, hg9⟩; have HOO := hide hoO; have HNO := hide (hnO.less (show w8.heap.size ≤ _ by simp)); have HG9 := hide (gb_trans (gb_alloc (gb_refl w8 none) _) hg9 (.inl rfl)); clear hoO hnO hg9)
      obtain ⟨w10, hw10⟩ : ∃ w10, w10 = w9.alloc (.cells #[.int .i64 ov.t, .slice nAO ov.n.length ncO, .slice sAO ov.s.length scO, .slice lAO ov.l.length lcO] 26) := ⟨_, rfl⟩
      have hcw10 := C4.box w9 (.int .i64 ov.t) (.slice nAO ov.n.length ncO) (.slice sAO ov.s.length scO) (.slice lAO ov.l.length lcO) 26
      rw [← hw10] at hcw10 ⊢
      have HGw10 := hide (show w9.grownBy w10 none by rw [hw10]; exact gb_alloc (gb_refl w9 none) _)
      have HSw10 := hide (show w10.heap.size = w9.heap.size + 1 by rw [hw10]; simp)
      have HCO := hide hcw10
      clear hcw10 hw10
      have HA10 := hide (gb_trans HA8.out (gb_trans HG9.out HGw10.out (.inl rfl)) (.inl rfl))
      clear k0 k1 k2 k3 HOF
      have HZ := hide (And.intro HG2.out.size (And.intro HG3.out.size (And.intro HSw4.out (And.intro HG5.out.size (And.intro HSw6.out (And.intro HG7.out.size (And.intro HSw8.out (And.intro HG9.out.size HSw10.out))))))))
      -- spoil the copy
      have h610 := gb_trans HG7.out (gb_trans HGw8.out (gb_trans HG9.out HGw10.out (.inl rfl)) (.inl rfl)) (.inl rfl)
      have h810 := gb_trans HG9.out HGw10.out (.inl rfl)
      have h410 := gb_trans HG5.out (gb_trans HGw6.out h610 (.inl rfl)) (.inl rfl)
      have HOC10 := hide (HOC.out.gb (gb_trans HGw6.out h610 (.inl rfl)))
      have HOX10 := hide (HOX.out.gb (gb_trans HGw8.out h810 (.inl rfl)))
      have HOO10 := hide (HOO.out.gb HGw10.out)
      have HOW10 := hide (HOW.out.gb (gb_trans HGw4.out h410 (.inl rfl)))
      have HCW10 := hide (HCW.out.gb h410)
      have HCX10 := hide (HCX.out.gb h810)
      have HT1 := HT.out
      have HSC := hide (spoil_any v w10 nAC ncC sAC scC lAC lcC fC (by omega) HNC.out.1 HOC10.out)
      obtain ⟨k0, k1, k2, k3⟩ := HCC.out.gb h610
      clear HT1 h610 h810 h410
      go_upto_region 8 with (go_at_call 36; refine HSC.out.mono ?_; rintro e w11 ⟨rfl, hw11⟩; have HW11 := hide hw11; clear hw11)
      clear k0 k1 k2 k3 HSC
      have HOX11 := hide (HOX10.out.wrote HW11.out fun b h1 h2 => by have := HZ.out; have := HNX.out.2 b h1; have := HNC.out.2 b h2; omega)
      have HOO11 := hide (HOO10.out.wrote HW11.out fun b h1 h2 => by have := HZ.out; have := HNO.out.2 b h1; have := HNC.out.2 b h2; omega)
      have HOW11 := hide (HOW10.out.wrote HW11.out fun b h1 h2 => by have := HZ.out; have := HNW.out.2 b h1; have := HNC.out.2 b h2; omega)
      have hcx := HCX10.out
      have hnx : w7.heap.size ∉ fC := fun h => by have := HZ.out; have := HNC.out.2 _ h; omega
      have k0 : w11.cell? ⟨w7.heap.size, 0, none⟩ = some (.int .i64 x.t) := HW11.out.cell hcx.c0 hnx
      have k1 : w11.cell? ⟨w7.heap.size, 1, none⟩ = some (.slice nAX x.n.length ncX) := HW11.out.cell hcx.c1 hnx
      have k2 : w11.cell? ⟨w7.heap.size, 2, none⟩ = some (.slice sAX x.s.length scX) := HW11.out.cell hcx.c2 hnx
      have k3 : w11.cell? ⟨w7.heap.size, 3, none⟩ = some (.slice lAX x.l.length lcX) := HW11.out.cell hcx.c3 hnx
      have HSX := hide (spoil_any x w11 nAX ncX sAX scX lAX lcX fX HXT.out HNX.out.1 HOX11.out)
      clear hcx hnx
      go_upto_region 9 with (go_at_call 36; refine HSX.out.mono ?_; rintro e w12 ⟨rfl, hw12⟩; have HW12 := hide hw12; have HV12 := hide ((HW11.out.more (g := fC ++ fX) (fun b h => List.mem_append_left _ h)).trans hw12 (fun b h => .inl (List.mem_append_right _ h))); clear hw12)
      clear k0 k1 k2 k3 HSX
      have HOO12 := hide (HOO11.out.wrote HW12.out fun b h1 h2 => by have := HZ.out; have := HNO.out.2 b h1; have := HNX.out.2 b h2; omega)
      have HOW12 := hide (HOW11.out.wrote HW12.out fun b h1 h2 => by have := HZ.out; have := HNW.out.2 b h1; have := HNX.out.2 b h2; omega)
      have hco := HCO.out
      have hno : w9.heap.size ∉ fC ++ fX := fun h => by
        have := HZ.out
        rcases List.mem_append.1 h with h | h
        · have := HNC.out.2 _ h; omega
        · have := HNX.out.2 _ h; omega
      have k0 : w12.cell? ⟨w9.heap.size, 0, none⟩ = some (.int .i64 ov.t) := HV12.out.cell hco.c0 hno
      have k1 : w12.cell? ⟨w9.heap.size, 1, none⟩ = some (.slice nAO ov.n.length ncO) := HV12.out.cell hco.c1 hno
      have k2 : w12.cell? ⟨w9.heap.size, 2, none⟩ = some (.slice sAO ov.s.length scO) := HV12.out.cell hco.c2 hno
      have k3 : w12.cell? ⟨w9.heap.size, 3, none⟩ = some (.slice lAO ov.l.length lcO) := HV12.out.cell hco.c3 hno
      have HSO := hide (spoil_any ov w12 nAO ncO sAO scO lAO lcO fO HOT.out HNO.out.1 HOO12.out)
      clear hco hno
      go_upto_region 10 with (go_at_call 36; refine HSO.out.mono ?_; rintro e w13 ⟨rfl, hw13⟩; have HW13 := hide hw13; have HV13 := hide ((HV12.out.more (g := (fC ++ fX) ++ fO) (fun b h => List.mem_append_left _ h)).trans hw13 (fun b h => .inl (List.mem_append_right _ h))); clear hw13)
      clear k0 k1 k2 k3 HSO
      have HOW13 := hide (HOW12.out.wrote HW13.out fun b h1 h2 => by have := HZ.out; have := HNW.out.2 b h1; have := HNO.out.2 b h2; omega)
      have hall : ∀ b ∈ (fC ++ fX) ++ fO, w4.heap.size ≤ b ∧ b ≠ w3.heap.size := fun b h => by
        have := HZ.out
        rcases List.mem_append.1 h with h | h
        · rcases List.mem_append.1 h with h | h
          · have := HNC.out.2 _ h; omega
          · have := HNX.out.2 _ h; omega
        · have := HNO.out.2 _ h; omega
      have HA13 := hide (HV13.out.gb HA10.out fun b h => by have := hall b h; have := HA4.out.size; omega)
      have hcw := HCW10.out
      have hnw : w3.heap.size ∉ (fC ++ fX) ++ fO := fun h => (hall _ h).2 rfl
      have k0 : w13.cell? ⟨w3.heap.size, 0, none⟩ = some (.int .i64 v.t) := HV13.out.cell hcw.c0 hnw
      have k1 : w13.cell? ⟨w3.heap.size, 1, none⟩ = some (.slice nAW v.n.length ncW) := HV13.out.cell hcw.c1 hnw
      have k2 : w13.cell? ⟨w3.heap.size, 2, none⟩ = some (.slice sAW v.s.length scW) := HV13.out.cell hcw.c2 hnw
      have k3 : w13.cell? ⟨w3.heap.size, 3, none⟩ = some (.slice lAW v.l.length lcW) := HV13.out.cell hcw.c3 hnw
      clear hall hcw hnw
      obtain ⟨q0, q1, q2, q3⟩ := HC.out.gb HA13.out
      have HT1 := HT.out
      have hsm := same_any v v w13 w13.heap.size nA nc sA sc lA lc nAW ncW sAW scW lAW lcW (by omega) (by omega) (Nat.le_refl _) ((HV.out.gb HA13.out (Nat.le_refl _)).up HA13.out.size) HOW13.out.vb
      rw [Vl.same_refl] at hsm
      have HSM := hide hsm
      clear hsm HT1
      go_wp2_with (first
        | (go_at_call 12; refine HSM.out.mono ?_; rintro e w14 ⟨rfl, hg14⟩; have HG14 := hide hg14; clear hg14)
        | (go_at_call 9; refine (live_any _).mono ?_; rintro e w15 ⟨rfl, hg15⟩; have HG15 := hide hg15; clear hg15))
      go_ret
      exact ⟨rfl, gb_trans HG.out (gb_trans HA13.out (gb_trans HG14.out HG15.out (.inl rfl)) (.inl rfl)) (.inl rfl)⟩
    · have hz1 : (z != 0) = true := int_bne_f hz
      clear hz
      go_enter Try.func6, Try.ntmps6
      go_wp2_with fail
      rw [← HWE.out]
      go_wp2_with (first
        | (go_at_call 7; refine HU.out.mono ?_; rintro e w1 ⟨rfl, hg1⟩; have HG1 := hide (gb_trans (gb_alloc (gb_refl wa none) _) hg1 (.inl rfl)); have b0 := cell_gb b0 HG1.out; have b1 := cell_gb b1 HG1.out; have b2 := cell_gb b2 HG1.out; have b3 := cell_gb b3 HG1.out; clear hg1)
        | (go_at_call 8; refine (HCH.out w1 HG1.out).mono ?_; rintro e w2 ⟨rfl, hg2⟩; have HG2 := hide (gb_trans HG1.out hg2 (.inl rfl)); clear hg2)
        | (go_at_call 9; refine (live_any _).mono ?_; rintro e w3 ⟨rfl, hg3⟩; have HG3 := hide hg3; clear hg3))
      go_ret
      exact ⟨rfl, gb_trans HG.out (gb_trans HG2.out HG3.out (.inl rfl)) (.inl rfl)⟩
end Go.Proofs.Ytfckmkpfhchggaa
