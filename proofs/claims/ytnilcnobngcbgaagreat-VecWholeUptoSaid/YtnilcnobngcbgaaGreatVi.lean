/-
  value.Of.
-/
import Derived.Test.YtnilcnobngcbgaaGreatVh
namespace Go.Proofs.YtnilcnobngcbgaaGreat
open Go.RowKit
attribute [local go_sem ↓] Go.wp_at_zero Go.wp_at_succ

/-- Are these atoms of one type, one at least? -/
def unif : List Vl → Bool
  | [] => false
  | a :: r => atomT a.t && r.all fun x => x.t == a.t
theorem unif_cons {l : List Vl} (h : 0 < l.length) : unif l = (atomT l[0].t && l.all fun x => x.t == l[0].t) := by
  cases l with
  | nil => simp at h
  | cons a r => simp [unif]
theorem RdV.first {w : World} {B : Nat} {A : Option Addr} {l : List Vl} (h : RdV w B A l) (h0 : 0 < l.length) : ∃ b o nA nc sA sc lA lc, A = some ⟨b, o, none⟩ ∧ b < B ∧
    C4 w b o (.int .i64 l[0].t) (.slice nA l[0].n.length nc) (.slice sA l[0].s.length sc) (.slice lA l[0].l.length lc) ∧ VB w B l[0] nA nc sA sc lA lc := by
  obtain ⟨b, o, nA, nc, sA, sc, lA, lc, h1, h2, h3, h4⟩ := h.at_ h0
  refine ⟨b, o, nA, nc, sA, sc, lA, lc, h1, h2, ?_, h4⟩
  simpa using h3

set_option maxHeartbeats 8000000 in
set_option maxRecDepth 100000 in
theorem unif_any (l : List Vl) (w : World) (B : Nat) (A : Option Addr) (c : Nat) (ht : Vl.tots l ≤ 1100000) (hB : B ≤ w.heap.size) (h : RdV w B A l) :
    Calls Tryz.prog 62 #[.slice A l.length c] w fun e w' => e = .returned (.bool (unif l)) ∧ w.grownBy w' none := by
  by_cases h0 : l = []
  · subst h0
    go_enter Tryz.func62, Tryz.ntmps62
    go_wp2_with fail
    go_ret
    exact ⟨rfl, gb_refl w none⟩
  have hl0 : 0 < l.length := List.length_pos_iff.2 h0
  have H := hide h
  have l1 : l.length ≤ 1100000 := Nat.le_trans (Vl.length_le_tots l) ht
  have HBB := hide hB
  have HU := hide (unif_cons hl0)
  have e0 : ((l.length : Int) == 0) = false := beq_eq_false_iff_ne.2 (by omega)
  have hl01 : (0 : Int) < (l.length : Int) := by omega
  obtain ⟨b, o, nA, nc, sA, sc, lA, lc, rfl, hbB, hc4, hvb⟩ := h.first hl0
  have HC4 := hide hc4
  have HIA := hide (isAtom_any l[0].t (.slice nA l[0].n.length nc) (.slice sA l[0].s.length sc) (.slice lA l[0].l.length lc))
  obtain ⟨d0, d1, d2, d3⟩ := hc4
  clear h ht hB h0 hvb
  cases hat : atomT l[0].t
  · rw [hat] at HIA HU
    rw [HU.out]
    clear hat
    go_enter Tryz.func62, Tryz.ntmps62
    go_wp2_with (go_at_call 82; refine (HIA.out _).mono ?_; rintro e w1 ⟨rfl, hg1⟩; have HG1 := hide hg1; clear hg1)
    go_ret
    exact ⟨by simp, HG1.out⟩
  · rw [hat, Bool.true_and] at HU
    rw [hat] at HIA
    clear hat
    go_enter Tryz.func62, Tryz.ntmps62
    go_wp2_with (go_at_call 82; refine (HIA.out _).mono ?_; rintro e w1 ⟨rfl, hg1⟩; have HG1 := hide hg1; clear hg1)
    go_loopw [17] (fun i wr => ∃ j : Nat, i = .int .i64 (j : Int) ∧ j ≤ l.length ∧ (∀ (i : Nat) (h : i < l.length), i < j → l[i].t = l[0].t) ∧ w.grownBy wr none) (fun i _ => l.length - (intOf i).toNat)
    case atStart => exact ⟨0, rfl, by omega, fun i _ h => by omega, HG1.out⟩
    case round =>
      obtain ⟨j, rfl, hj, he, hg⟩ := hrel
      have HE := hide he
      have HG := hide hg
      clear he hg
      by_cases hlt : j < l.length
      · have hlt1 : (j : Int) < (l.length : Int) := by omega
        obtain ⟨q, p, xA, xc, yA, yc, zA, zc, hA, hqB, hc4', hvb'⟩ := H.out.at_ hlt
        simp only [Option.some.injEq, Addr.mk.injEq, and_true] at hA
        obtain ⟨rfl, rfl⟩ := hA
        obtain ⟨f0, f1, f2, f3⟩ := hc4'.gb HG.out
        have hga : wr.grownBy (wr.alloc (.cells #[.int .i64 l[j].t, .slice xA l[j].n.length xc, .slice yA l[j].s.length yc, .slice zA l[j].l.length zc] 26)) none := gb_alloc (gb_refl wr none) _
        have g0 := cell_gb d0 (gb_trans HG.out hga (.inl rfl))
        have HGA := hide (gb_trans HG.out hga (.inl rfl))
        clear hc4' hvb' hga
        by_cases hx : l[j].t = l[0].t
        · have hx1 := int_bne_t hx
          have HX := hide hx
          clear hx
          go_wp2_with fail
          go_quiet (fail)
          go_wp2_with fail
          go_roundw
          case rel =>
            refine ⟨j + 1, by go_num, by omega, fun i h hi => ?_, gb_drewN HGA.out _⟩
            by_cases hij : i = j
            · subst hij; exact HX.out
            · exact HE.out i h (by omega)
          case measure => simp [intOf]; omega
        · have hx1 := int_bne_f hx
          have HS : Hid (unif l = false) := hide (by
            rw [HU.out, Bool.eq_false_iff]
            intro hall
            rw [List.all_eq_true] at hall
            exact hx (beq_iff_eq.1 (hall _ (List.getElem_mem hlt))))
          clear hx
          go_wp2_with fail
          go_quiet (fail)
          go_wp2_with fail
          go_ret
          exact ⟨ret_b HS.out.symm, gb_drewN HGA.out _⟩
      · have hlt1 : ¬ (j : Int) < (l.length : Int) := by omega
        have HS : Hid (unif l = true) := hide (by
          rw [HU.out, List.all_eq_true]
          intro x hx
          obtain ⟨i, hi, rfl⟩ := List.getElem_of_mem hx
          exact beq_iff_eq.2 (HE.out i hi (by omega)))
        go_wp2_with fail
        go_ret
        exact ⟨ret_b HS.out.symm, HG.out⟩
end Go.Proofs.YtnilcnobngcbgaaGreat
