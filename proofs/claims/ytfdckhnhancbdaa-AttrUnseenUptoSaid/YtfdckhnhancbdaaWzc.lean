/-
  The document's own Check.
-/
import Derived.Test.YtfdckhnhancbdaaWx
import Derived.Deep.CutBlock
import Derived.Deep.DeepCutAuto
namespace Go.Proofs.Ytfdckhnhancbdaa
open Go.RowKit
attribute [local go_sem ↓] Go.wp_at_zero Go.wp_at_succ

/-- All faults, by the document. -/
def faultsV (v : Vl) : Int := partsV 1048576 v
theorem rParts_full (v : Vl) (w : World) (B : Nat) (nA : Option Addr) (nc : Nat) (sA : Option Addr) (sc : Nat) (lA : Option Addr) (lc : Nat) (ht : v.tot ≤ 1100000) (hB : B ≤ w.heap.size) (h : VB w B v nA nc sA sc lA lc) :
    Calls Try.prog 57 #[.agg #[.int .i64 v.t, .slice nA v.n.length nc, .slice sA v.s.length sc, .slice lA v.l.length lc], .int .i64 1048576] w fun e w' => e = .returned (.int .i64 (faultsV v)) ∧ w.grownBy w' none :=
  rParts_d 1048576 (Nat.le_refl _) v w B nA nc sA sc lA lc ht hB h
/-- Check, by the document. -/
def checkV (v : Vl) : Int := if faultsV v = 0 then (if 32 < v.depth then 6 else 0) else faultsV v

set_option maxHeartbeats 8000000 in
set_option maxRecDepth 100000 in
theorem rCheck_any (v : Vl) (w : World) (B : Nat) (nA : Option Addr) (nc : Nat) (sA : Option Addr) (sc : Nat) (lA : Option Addr) (lc : Nat) (ht : v.tot ≤ 1100000) (hB : B ≤ w.heap.size) (h : VB w B v nA nc sA sc lA lc) :
    Calls Try.prog 30 #[.agg #[.int .i64 v.t, .slice nA v.n.length nc, .slice sA v.s.length sc, .slice lA v.l.length lc]] w fun e w' => e = .returned (.int .i64 (checkV v)) ∧ w.grownBy w' none := by
  obtain ⟨wa, hwa⟩ : ∃ wa, wa = w.alloc (.cells #[.int .i64 v.t, .slice nA v.n.length nc, .slice sA v.s.length sc, .slice lA v.l.length lc] 26) := ⟨_, rfl⟩
  have hg : w.grownBy wa none := by rw [hwa]; exact gb_alloc (gb_refl w none) _
  have hc := C4.box w (.int .i64 v.t) (.slice nA v.n.length nc) (.slice sA v.s.length sc) (.slice lA v.l.length lc) 26
  rw [← hwa] at hc
  have b0 : wa.cell? ⟨w.heap.size, 0, none⟩ = some (.int .i64 v.t) := hc.c0
  have b1 : wa.cell? ⟨w.heap.size, 1, none⟩ = some (.slice nA v.n.length nc) := hc.c1
  have b2 : wa.cell? ⟨w.heap.size, 2, none⟩ = some (.slice sA v.s.length sc) := hc.c2
  have b3 : wa.cell? ⟨w.heap.size, 3, none⟩ = some (.slice lA v.l.length lc) := hc.c3
  have hbw := Nat.le_trans hB hg.size
  have hva := h.gb hg hB
  have HP := hide (rParts_full v wa B nA nc sA sc lA lc ht hbw hva)
  have HD := hide (fun w2 (k : wa.grownBy w2 none) => rDepth_any v w2 B nA nc sA sc lA lc ht (Nat.le_trans hbw k.size) (hva.gb k hbw))
  have HG := hide hg
  have HWE := hide hwa
  have HCK := hide (show checkV v = if faultsV v = 0 then (if 32 < v.depth then 6 else 0) else faultsV v from rfl)
  clear ht hB h hg hwa hc hbw hva
  generalize faultsV v = y at HP HCK
  generalize checkV v = z at *
  generalize v.depth = k at *
  by_cases hy : y = 0
  · have hy1 : (y == 0) = true := int_beq_t hy
    rw [if_pos hy] at HCK
    clear hy
    by_cases hk : 32 < k
    · have hk1 : (32 : Int) < (k : Int) := by omega
      rw [if_pos hk] at HCK
      clear hk
      go_enter Try.func30, Try.ntmps30
      go_wp2_with (first
        | (go_at_call 57; rw [← HWE.out]; refine HP.out.mono ?_; rintro e w1 ⟨rfl, hg1⟩; have b0 := cell_gb b0 hg1; have b1 := cell_gb b1 hg1; have b2 := cell_gb b2 hg1; have b3 := cell_gb b3 hg1; have HG1 := hide hg1; clear hg1)
        | (go_at_call 58; refine (HD.out w1 HG1.out).mono ?_; rintro e w2 ⟨rfl, hg2⟩; have HG2 := hide (gb_trans HG1.out hg2 (.inl rfl)); clear hg2))
      go_ret
      exact ⟨ret_i HCK.out.symm, gb_trans HG.out HG2.out (.inl rfl)⟩
    · have hk1 : ¬ (32 : Int) < (k : Int) := by omega
      rw [if_neg hk] at HCK
      clear hk
      have HY0 := hide (eq_of_beq hy1)
      go_enter Try.func30, Try.ntmps30
      go_wp2_with (first
        | (go_at_call 57; rw [← HWE.out]; refine HP.out.mono ?_; rintro e w1 ⟨rfl, hg1⟩; have b0 := cell_gb b0 hg1; have b1 := cell_gb b1 hg1; have b2 := cell_gb b2 hg1; have b3 := cell_gb b3 hg1; have HG1 := hide hg1; clear hg1)
        | (go_at_call 58; refine (HD.out w1 HG1.out).mono ?_; rintro e w2 ⟨rfl, hg2⟩; have HG2 := hide (gb_trans HG1.out hg2 (.inl rfl)); clear hg2))
      go_ret
      exact ⟨ret_i (HY0.out.trans HCK.out.symm), gb_trans HG.out HG2.out (.inl rfl)⟩
  · have hy1 : (y == 0) = false := int_beq_f hy
    rw [if_neg hy] at HCK
    clear hy
    go_enter Try.func30, Try.ntmps30
    go_wp2_with (go_at_call 57; rw [← HWE.out]; refine HP.out.mono ?_; rintro e w1 ⟨rfl, hg1⟩; have b0 := cell_gb b0 hg1; have b1 := cell_gb b1 hg1; have b2 := cell_gb b2 hg1; have b3 := cell_gb b3 hg1; have HG1 := hide hg1; clear hg1)
    go_ret
    exact ⟨ret_i HCK.out.symm, gb_trans HG.out HG1.out (.inl rfl)⟩
end Go.Proofs.Ytfdckhnhancbdaa
