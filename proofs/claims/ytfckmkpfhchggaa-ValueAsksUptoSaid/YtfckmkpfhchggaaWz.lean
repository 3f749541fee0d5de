/-
  The document's own Check; the law that what is answered shares nothing: its walk.
-/
import Derived.Test.YtfckmkpfhchggaaWx
import Derived.Test.YtfckmkpfhchggaaWp
import Derived.Test.YtfckmkpfhchggaaWd
import Derived.Test.YtfckmkpfhchggaaVa
import Derived.Test.YtfckmkpfhchggaaWl
import Derived.Deep.CutBlock
import Derived.Deep.DeepCutAuto
namespace Go.Proofs.Ytfckmkpfhchggaa
open Go.RowKit
attribute [local go_sem ↓] Go.wp_at_zero Go.wp_at_succ

/-- All faults, by the document. -/
def faultsV (v : Vl) : Int := partsV 1048576 v
theorem rParts_full (v : Vl) (w : World) (B : Nat) (nA : Option Addr) (nc : Nat) (sA : Option Addr) (sc : Nat) (lA : Option Addr) (lc : Nat) (ht : v.tot ≤ 1100000) (hB : B ≤ w.heap.size) (h : VB w B v nA nc sA sc lA lc) :
    Calls Try.prog 38 #[.agg #[.int .i64 v.t, .slice nA v.n.length nc, .slice sA v.s.length sc, .slice lA v.l.length lc], .int .i64 1048576] w fun e w' => e = .returned (.int .i64 (faultsV v)) ∧ w.grownBy w' none :=
  rParts_d 1048576 (Nat.le_refl _) v w B nA nc sA sc lA lc ht hB h
/-- Check, by the document. -/
def checkV (v : Vl) : Int := if faultsV v = 0 then (if 32 < v.depth then 6 else 0) else faultsV v

set_option maxHeartbeats 8000000 in
set_option maxRecDepth 100000 in
theorem rCheck_any (v : Vl) (w : World) (B : Nat) (nA : Option Addr) (nc : Nat) (sA : Option Addr) (sc : Nat) (lA : Option Addr) (lc : Nat) (ht : v.tot ≤ 1100000) (hB : B ≤ w.heap.size) (h : VB w B v nA nc sA sc lA lc) :
    Calls Try.prog 8 #[.agg #[.int .i64 v.t, .slice nA v.n.length nc, .slice sA v.s.length sc, .slice lA v.l.length lc]] w fun e w' => e = .returned (.int .i64 (checkV v)) ∧ w.grownBy w' none := by
  obtain ⟨wa, hwa⟩ : ∃ wa, wa = w.alloc (.cells #[.int .i64 v.t, .slice nA v.n.length nc, .slice sA v.s.length sc, .slice lA v.l.length lc] 26) := ⟨_, rfl⟩
  have hg : w.grownBy wa none := by rw [hwa]; exact gb_alloc (gb_refl w none) _
  have hc := C4.box w (.int .i64 v.t) (.slice nA v.n.length nc) (.slice sA v.s.length sc) (.slice lA v.l.length lc) 26
  rw [← hwa] at hc
  have b0 : wa.cell? ⟨w.heap.size, 0, none⟩ = some (.int .i64 v.t) := hc.c0
  have b1 : wa.cell? ⟨w.heap.size, 1, none⟩ = some (.slice nA v.n.length nc) := hc.c1
  have b2 : wa.cell? ⟨w.heap.size, 2, none⟩ = some (.slice sA v.s.length sc) := hc.c2
  have b3 : wa.cell? ⟨w.heap.size, 3, none⟩ = some (.slice lA v.l.length lc) := hc.c3
  have hbw := Nat.le_trans hB hg.size
  have hva := h.gb hg hB
  have HP := hide (rParts_full v wa B nA nc sA sc lA lc ht hbw hva)
  have HD := hide (fun w2 (k : wa.grownBy w2 none) => rDepth_any v w2 B nA nc sA sc lA lc ht (Nat.le_trans hbw k.size) (hva.gb k hbw))
  have HG := hide hg
  have HWE := hide hwa
  have HCK := hide (show checkV v = if faultsV v = 0 then (if 32 < v.depth then 6 else 0) else faultsV v from rfl)
  clear ht hB h hg hwa hc hbw hva
  generalize faultsV v = y at HP HCK
  generalize checkV v = z at *
  generalize v.depth = k at *
  by_cases hy : y = 0
  · have hy1 : (y == 0) = true := int_beq_t hy
    rw [if_pos hy] at HCK
    clear hy
    by_cases hk : 32 < k
    · have hk1 : (32 : Int) < (k : Int) := by omega
      rw [if_pos hk] at HCK
      clear hk
      go_enter Try.func8, Try.ntmps8
      go_wp2_with (first
        | (go_at_call 38; rw [← HWE.out]; refine HP.out.mono ?_; rintro e w1 ⟨rfl, hg1⟩; have b0 := cell_gb b0 hg1; have b1 := cell_gb b1 hg1; have b2 := cell_gb b2 hg1; have b3 := cell_gb b3 hg1; have HG1 := hide hg1; clear hg1)
        | (go_at_call 24; refine (HD.out w1 HG1.out).mono ?_; rintro e w2 ⟨rfl, hg2⟩; have HG2 := hide (gb_trans HG1.out hg2 (.inl rfl)); clear hg2))
      go_ret
      exact ⟨ret_i HCK.out.symm, gb_trans HG.out HG2.out (.inl rfl)⟩
    · have hk1 : ¬ (32 : Int) < (k : Int) := by omega
      rw [if_neg hk] at HCK
      clear hk
      have HY0 := hide (eq_of_beq hy1)
      go_enter Try.func8, Try.ntmps8
      go_wp2_with (first
        | (go_at_call 38; rw [← HWE.out]; refine HP.out.mono ?_; rintro e w1 ⟨rfl, hg1⟩; have b0 := cell_gb b0 hg1; have b1 := cell_gb b1 hg1; have b2 := cell_gb b2 hg1; have b3 := cell_gb b3 hg1; have HG1 := hide hg1; clear hg1)
        | (go_at_call 24; refine (HD.out w1 HG1.out).mono ?_; rintro e w2 ⟨rfl, hg2⟩; have HG2 := hide (gb_trans HG1.out hg2 (.inl rfl)); clear hg2))
      go_ret
      exact ⟨ret_i (HY0.out.trans HCK.out.symm), gb_trans HG.out HG2.out (.inl rfl)⟩
  · have hy1 : (y == 0) = false := int_beq_f hy
    rw [if_neg hy] at HCK
    clear hy
    go_enter Try.func8, Try.ntmps8
    go_wp2_with (go_at_call 38; rw [← HWE.out]; refine HP.out.mono ?_; rintro e w1 ⟨rfl, hg1⟩; have b0 := cell_gb b0 hg1; have b1 := cell_gb b1 hg1; have b2 := cell_gb b2 hg1; have b3 := cell_gb b3 hg1; have HG1 := hide hg1; clear hg1)
    go_ret
    exact ⟨ret_i HCK.out.symm, gb_trans HG.out HG1.out (.inl rfl)⟩

theorem RdV.lit1 {w : World} {a : Vl} {x0 x1 x2 x3 : Value} (h1 : VAt w w.heap.size a [x0, x1, x2, x3]) :
    RdV (w.alloc (.cells #[x0, x1, x2, x3] 26)) (w.heap.size + 1) (some ⟨w.heap.size, 0, none⟩) [a] := by
  have hg := gb_alloc (gb_refl w none) (.cells #[x0, x1, x2, x3] 26)
  exact ⟨[[x0, x1, x2, x3]], Rd.new w _ _ _ rfl, _, _, rfl, (h1.gb hg (Nat.le_refl _)).up (Nat.le_succ _), rfl⟩
theorem flatS_chars (l : List Vl) : (l.flatMap Vl.s).length + Vl.chars (l.flatMap Vl.s) ≤ Vl.tots l := by
  induction l with
  | nil => simp [Vl.tots, Vl.chars]
  | cons a r ih =>
    have h := Vl.tot_def a
    have e : Vl.chars (a.s ++ r.flatMap Vl.s) = Vl.chars a.s + Vl.chars (r.flatMap Vl.s) := by simp [Vl.chars]
    simp only [List.flatMap_cons, List.length_append, Vl.tots, e]
    omega
theorem flatNS (l : List Vl) : (l.flatMap Vl.n).length + (l.flatMap Vl.s).length + Vl.chars (l.flatMap Vl.s) ≤ Vl.tots l := by
  induction l with
  | nil => simp [Vl.tots, Vl.chars]
  | cons a r ih =>
    have h := Vl.tot_def a
    have e : Vl.chars (a.s ++ r.flatMap Vl.s) = Vl.chars a.s + Vl.chars (r.flatMap Vl.s) := by simp [Vl.chars]
    simp only [List.flatMap_cons, List.length_append, Vl.tots, e]
    omega
theorem ofV_tot (l : List Vl) : (ofV l).tot ≤ 1 + Vl.tots l := by
  unfold ofV
  split
  · have := flatNS l
    rw [Vl.tot_def]
    simp only [Vl.n, Vl.s, Vl.l, Vl.tots]
    omega
  · rw [Vl.tot_def]
    simp [Vl.n, Vl.s, Vl.l, Vl.chars]
theorem rowV_tot (ts : List Vl) (i : Int) (h : rowOk ts i) : (rowV ts i.toNat).tot ≤ 3 + 2 * Vl.tots ts := by
  have h1 := flatS_chars ts
  have h2 := ofV_tot ((ts.flatMap Vl.l).map fun c => elemV c i.toNat)
  have h3 := elems_tots (ts.flatMap Vl.l) i (fun c hc => by
    obtain ⟨t, ht, hct⟩ := List.mem_flatMap.1 hc
    exact h t ht c hct)
  have h4 := flatL_le ts
  have e : (rowV ts i.toNat).tot = 1 + (1 + (ts.flatMap Vl.s).length + Vl.chars (ts.flatMap Vl.s) + ((ofV ((ts.flatMap Vl.l).map fun c => elemV c i.toNat)).tot + 0)) := by
    unfold rowV
    rw [Vl.tot_def]
    simp only [Vl.n, Vl.s, Vl.l, Vl.tots, List.length_nil]
    rw [Vl.tot_def (.mk 3 [] (ts.flatMap Vl.s) [])]
    simp only [Vl.n, Vl.s, Vl.l, Vl.tots, List.length_nil, Vl.chars, List.map_nil, List.sum_nil]
    omega
  omega
theorem atF_tot (d : Nat) : ∀ (v x : Vl) (i : Int), atF d v i = some x → x.tot ≤ 3 + 2 * v.tot := by
  induction d with
  | zero => intro v x i h; cases h
  | succ d ih =>
    intro v x i h
    have ht := Vl.tot_def v
    unfold atF at h
    by_cases h98 : v.t = 98
    · rw [if_pos h98] at h
      by_cases hr : rowB [v] i = true
      · rw [if_pos hr] at h
        injection h with h
        have h1 := rowV_tot [v] i ((rowB_iff _ _).1 hr)
        rw [h] at h1
        simp only [Vl.tots] at h1
        omega
      · rw [if_neg hr] at h; cases h
    · rw [if_neg h98] at h
      by_cases h99 : v.t = 99 ∧ v.l.length = 2
      · rw [if_pos h99] at h
        by_cases ha : v.l.all isTab = true
        · rw [if_pos ha] at h
          by_cases hr : rowB v.l i = true
          · rw [if_pos hr] at h
            injection h with h
            have h1 := rowV_tot v.l i ((rowB_iff _ _).1 hr)
            rw [h] at h1
            omega
          · rw [if_neg hr] at h; cases h
        · rw [if_neg ha] at h
          have h1 := ih _ _ _ h
          have h2 : (v.l.getD 1 v).tot ≤ Vl.tots v.l := by
            rw [List.getD_eq_getElem?_getD, List.getElem?_eq_getElem (by omega), Option.getD_some]
            exact Vl.tot_mem (List.getElem_mem _)
          omega
      · rw [if_neg h99] at h
        by_cases hi : 0 ≤ i ∧ i < (v.count : Int)
        · rw [if_pos hi] at h
          injection h with h
          have := elemV_tot v i.toNat (by omega)
          rw [h] at this
          omega
        · rw [if_neg hi] at h; cases h
/-- What At answers, as one thing: a value of its own. -/
def AtOne (w : World) (e : Ending) (w' : World) : Prop := ∃ (x : Vl) (k : Int) (xA : Option Addr) (xc : Nat) (yA : Option Addr) (yc : Nat) (zA : Option Addr) (zc : Nat) (f : List Nat),
      e = .returned (.tuple #[.agg #[.int .i64 x.t, .slice xA x.n.length xc, .slice yA x.s.length yc, .slice zA x.l.length zc], .int .i64 k]) ∧ VOw w' x [.int .i64 x.t, .slice xA x.n.length xc, .slice yA x.s.length yc, .slice zA x.l.length zc] f ∧ New w w' f ∧ w.grownBy w' none ∧ x.tot ≤ 1100000
theorem at_one (v : Vl) (i : Int) (w : World) (B : Nat) (nA : Option Addr) (nc : Nat) (sA : Option Addr) (sc : Nat) (lA : Option Addr) (lc : Nat) (ht : v.tot ≤ 500000) (hB : B ≤ w.heap.size) (h : VB w B v nA nc sA sc lA lc) :
    Calls Try.prog 10 #[.agg #[.int .i64 v.t, .slice nA v.n.length nc, .slice sA v.s.length sc, .slice lA v.l.length lc], .int .i64 i] w (AtOne w) := by
  refine (at_d v.depth v i w B nA nc sA sc lA lc (Nat.le_refl _) ht hB h).mono fun e w' hp => ?_
  cases hr : atF v.depth v i with
  | some x =>
    rw [hr] at hp
    obtain ⟨xA, xc, yA, yc, zA, zc, f, rfl, ho, hn, hg⟩ := hp
    have := atF_tot _ _ _ _ hr
    exact ⟨x, 0, xA, xc, yA, yc, zA, zc, f, rfl, ho, hn, hg, by omega⟩
  | none =>
    rw [hr] at hp
    obtain ⟨rfl, hg⟩ := hp
    exact ⟨.mk 0 [] [] [], 33, none, 0, none, 0, none, 0, [], rfl, ⟨none, 0, none, 0, none, 0, [], [], [], [], [], rfl, ⟨Nat.le_refl _, Nat.le_refl _, Nat.le_refl _⟩, ⟨Own.nil_, Own.nil_, Own.nil_⟩, ⟨rfl, rfl⟩, rfl⟩, New.nil_ _ _, hg, by decide +kernel⟩
end Go.Proofs.Ytfckmkpfhchggaa
