/-
  value.Match.
-/
import Derived.Test.YtfckmkpfhchggaaVc
namespace Go.Proofs.Ytfckmkpfhchggaa
open Go.RowKit
attribute [local go_sem ↓] Go.wp_at_zero Go.wp_at_succ

/-- value.Match on values of that depth. -/
def MatchC (d : Nat) : Prop := ∀ (a b : Vl) (w : World) (B : Nat) (nA : Option Addr) (nc : Nat) (sA : Option Addr) (sc : Nat) (lA : Option Addr) (lc : Nat) (nA' : Option Addr) (nc' : Nat) (sA' : Option Addr) (sc' : Nat) (lA' : Option Addr) (lc' : Nat), a.depth ≤ d → a.tot ≤ 1100000 → b.tot ≤ 1100000 → B ≤ w.heap.size → VB w B a nA nc sA sc lA lc → VB w B b nA' nc' sA' sc' lA' lc' →
    Calls Try.prog 31 #[.agg #[.int .i64 a.t, .slice nA a.n.length nc, .slice sA a.s.length sc, .slice lA a.l.length lc], .agg #[.int .i64 b.t, .slice nA' b.n.length nc', .slice sA' b.s.length sc', .slice lA' b.l.length lc']] w
      fun e w' => e = .returned (.bool (Vl.same a b)) ∧ w.grownBy w' none

theorem sames_false {l m : List Vl} (h : l ≠ m) : Vl.sames l m = false := by
  cases e : Vl.sames l m
  · rfl
  · exact absurd ((Vl.sames_eq l m).1 e) h

set_option maxHeartbeats 8000000 in
set_option maxRecDepth 100000 in
theorem eqV_of {d : Nat} (hM : MatchC d) (l m : List Vl) (w : World) (B : Nat) (A : Option Addr) (c : Nat) (A' : Option Addr) (c' : Nat) (hd : ∀ x ∈ l, x.depth ≤ d) (ht : Vl.tots l ≤ 1100000) (ht' : Vl.tots m ≤ 1100000) (hB : B ≤ w.heap.size) (h : RdV w B A l) (h' : RdV w B A' m) :
    Calls Try.prog 67 #[.slice A l.length c, .slice A' m.length c', .func (.func 31) #[] #[]] w
      fun e w' => e = .returned (.bool (Vl.sames l m)) ∧ w.grownBy w' none := by
  have IH := hide hM
  have H := hide h
  have H' := hide h'
  have HD := hide hd
  have HT := hide (fun x (hx : x ∈ l) => Nat.le_trans (Vl.tot_mem hx) ht)
  have HT' := hide (fun x (hx : x ∈ m) => Nat.le_trans (Vl.tot_mem hx) ht')
  have l1 : l.length ≤ 1100000 := Nat.le_trans (Vl.length_le_tots l) ht
  have m1 : m.length ≤ 1100000 := Nat.le_trans (Vl.length_le_tots m) ht'
  have HBB := hide hB
  clear hM h h' hd ht ht' hB
  by_cases hne : l.length = m.length
  · have e1 := nat_bne_t hne
    have HNE := hide hne
    clear hne
    go_enter Try.func67, Try.ntmps67
    go_wp2_with fail
    go_loopw [17] (fun i wr => ∃ j : Nat, i = .int .i64 (j : Int) ∧ j ≤ l.length ∧ l.take j = m.take j ∧ w.grownBy wr none) (fun i _ => l.length - (intOf i).toNat)
    case atStart => exact ⟨0, rfl, by omega, rfl, gb_refl w none⟩
    case round =>
      obtain ⟨j, rfl, hj, he, hg⟩ := hrel
      have HE := hide he
      have HG1 := hide hg
      clear he hg
      by_cases hlt : j < l.length
      · have hlt1 : (j : Int) < (l.length : Int) := by omega
        have hltm : j < m.length := by have := HNE.out; omega
        have hlt2 : (j : Int) < (m.length : Int) := by omega
        obtain ⟨q, o, xA, xc, yA, yc, zA, zc, rfl, hqB, hc4, hvb⟩ := H.out.at_ hlt
        obtain ⟨q', o', xA', xc', yA', yc', zA', zc', rfl, hqB', hc4', hvb'⟩ := H'.out.at_ hltm
        obtain ⟨d0, d1, d2, d3⟩ := hc4.gb HG1.out
        have hga : wr.grownBy (wr.alloc (.cells #[.int .i64 l[j].t, .slice xA l[j].n.length xc, .slice yA l[j].s.length yc, .slice zA l[j].l.length zc] 26)) none := gb_alloc (gb_refl wr none) _
        have hgb := gb_alloc hga (.cells #[.int .i64 m[j].t, .slice xA' m[j].n.length xc', .slice yA' m[j].s.length yc', .slice zA' m[j].l.length zc'] 26)
        have hgw := gb_trans HG1.out hgb (.inl rfl)
        obtain ⟨f0, f1, f2, f3⟩ := hc4'.gb (gb_trans HG1.out hga (.inl rfl))
        have HCALL := hide (IH.out l[j] m[j] _ B xA xc yA yc zA zc xA' xc' yA' yc' zA' zc' (HD.out _ (List.getElem_mem hlt)) (HT.out _ (List.getElem_mem hlt)) (HT'.out _ (List.getElem_mem hltm)) (Nat.le_trans HBB.out hgw.size) (hvb.gb hgw HBB.out) (hvb'.gb hgw HBB.out))
        have HGW := hide hgw
        clear hc4 hc4' hvb hvb' hga hgb hgw
        by_cases hx : Vl.same l[j] m[j] = true
        · rw [hx] at HCALL
          have HX := hide ((Vl.same_eq _ _).1 hx)
          clear hx
          go_wp2_with (go_at_call 31; refine HCALL.out.mono ?_; rintro e w6 ⟨rfl, hg6⟩; have HG6 := hide hg6; clear hg6)
          go_roundw
          case rel => exact ⟨j + 1, by go_num, by omega, take_eq_step HE.out hlt hltm HX.out, gb_trans HGW.out HG6.out (.inl rfl)⟩
          case measure => simp [intOf]; omega
        · have hx := Bool.eq_false_iff.2 hx
          rw [hx] at HCALL
          have HS : Hid (Vl.sames l m = false) := hide (sames_false (by rintro rfl; rw [Vl.same_refl] at hx; cases hx))
          clear hx
          go_wp2_with (go_at_call 31; refine HCALL.out.mono ?_; rintro e w6 ⟨rfl, hg6⟩; have HG6 := hide hg6; clear hg6)
          go_ret
          exact ⟨ret_b HS.out.symm, gb_trans HGW.out HG6.out (.inl rfl)⟩
      · have hlt1 : ¬ (j : Int) < (l.length : Int) := by omega
        have HS : Hid (Vl.sames l m = true) := hide ((Vl.sames_eq _ _).2 (take_eq_all HE.out hlt HNE.out))
        go_wp2_with fail
        go_ret
        exact ⟨ret_b HS.out.symm, HG1.out⟩
  · have e1 := nat_bne_f hne
    have HS : Hid (Vl.sames l m = false) := hide (sames_false (by rintro rfl; exact hne rfl))
    clear hne
    go_enter Try.func67, Try.ntmps67
    go_wp2_with fail
    go_ret
    exact ⟨ret_b HS.out.symm, gb_refl w none⟩

theorem Vl.same_def (a b : Vl) : Vl.same a b = (decide (a.t = b.t) && decide (a.n = b.n) && decide (a.s = b.s) && Vl.sames a.l b.l) := by
  cases a; cases b
  rw [Bool.eq_iff_iff]
  simp only [Vl.same, Vl.t, Vl.n, Vl.s, Vl.l, Bool.and_eq_true]
  exact ⟨fun ⟨⟨⟨a, b⟩, c⟩, d⟩ => ⟨⟨⟨decide_eq_true (of_decide_eq_true a), decide_eq_true (of_decide_eq_true b)⟩, decide_eq_true (of_decide_eq_true c)⟩, d⟩, fun ⟨⟨⟨a, b⟩, c⟩, d⟩ => ⟨⟨⟨decide_eq_true (of_decide_eq_true a), decide_eq_true (of_decide_eq_true b)⟩, decide_eq_true (of_decide_eq_true c)⟩, d⟩⟩
theorem int_beq_t {a b : Int} (h : a = b) : (a == b) = true := beq_iff_eq.2 h
theorem int_beq_f {a b : Int} (h : ¬ a = b) : (a == b) = false := beq_eq_false_iff_ne.2 h

set_option maxHeartbeats 8000000 in
set_option maxRecDepth 100000 in
theorem vMatch_d (d : Nat) : MatchC d := by
  induction d with
  | zero => intro v; intros; rw [Vl.depth_def] at *; omega
  | succ d ih =>
    intro a b w B nA nc sA sc lA lc nA' nc' sA' sc' lA' lc' hd ht ht' hB hv hv'
    obtain ⟨l1, l2, l3, l4⟩ := Vl.lens a ht
    obtain ⟨m1, m2, m3, m4⟩ := Vl.lens b ht'
    obtain ⟨wa, hwa⟩ : ∃ wa, wa = (w.alloc (.cells #[.int .i64 a.t, .slice nA a.n.length nc, .slice sA a.s.length sc, .slice lA a.l.length lc] 26)).alloc (.cells #[.int .i64 b.t, .slice nA' b.n.length nc', .slice sA' b.s.length sc', .slice lA' b.l.length lc'] 26) := ⟨_, rfl⟩
    have hg : w.grownBy wa none := by rw [hwa]; exact gb_alloc (gb_alloc (gb_refl w none) _) _
    have hc := (C4.box w (.int .i64 a.t) (.slice nA a.n.length nc) (.slice sA a.s.length sc) (.slice lA a.l.length lc) 26).gb (gb_alloc (gb_refl _ none) (.cells #[.int .i64 b.t, .slice nA' b.n.length nc', .slice sA' b.s.length sc', .slice lA' b.l.length lc'] 26))
    have hc' := C4.box2 w (.cells #[.int .i64 a.t, .slice nA a.n.length nc, .slice sA a.s.length sc, .slice lA a.l.length lc] 26) (.int .i64 b.t) (.slice nA' b.n.length nc') (.slice sA' b.s.length sc') (.slice lA' b.l.length lc') 26
    rw [← hwa] at hc hc'
    have hbw := Nat.le_trans hB hg.size
    have hva := hv.gb hg hB
    have hva' := hv'.gb hg hB
    have EN := hide (fun w2 (k : wa.grownBy w2 none) => eqI_any nA nA' nc nc' B a.n b.n w2 (hva.gb k hbw).n (hva'.gb k hbw).n l1 m1)
    have ES := hide (fun w2 (k : wa.grownBy w2 none) => eqS_any sA sA' sc sc' B a.s b.s w2 (hva.gb k hbw).s (hva'.gb k hbw).s l2 m2)
    have EL := hide (fun w2 (k : wa.grownBy w2 none) => eqV_of ih a.l b.l w2 B lA lc lA' lc' (fun x hx => Vl.depth_part hd hx) l4 m4 (Nat.le_trans hbw k.size) (hva.gb k hbw).l (hva'.gb k hbw).l)
    have HG := hide hg
    have HWE := hide hwa
    have HSD := hide (Vl.same_def a b)
    have q0 : wa.cell? ⟨w.heap.size, 0, none⟩ = some (.int .i64 a.t) := hc.c0
    have q1 : wa.cell? ⟨w.heap.size, 1, none⟩ = some (.slice nA a.n.length nc) := hc.c1
    have q2 : wa.cell? ⟨w.heap.size, 2, none⟩ = some (.slice sA a.s.length sc) := hc.c2
    have q3 : wa.cell? ⟨w.heap.size, 3, none⟩ = some (.slice lA a.l.length lc) := hc.c3
    have k0 : wa.cell? ⟨w.heap.size + 1, 0, none⟩ = some (.int .i64 b.t) := hc'.c0
    have k1 : wa.cell? ⟨w.heap.size + 1, 1, none⟩ = some (.slice nA' b.n.length nc') := hc'.c1
    have k2 : wa.cell? ⟨w.heap.size + 1, 2, none⟩ = some (.slice sA' b.s.length sc') := hc'.c2
    have k3 : wa.cell? ⟨w.heap.size + 1, 3, none⟩ = some (.slice lA' b.l.length lc') := hc'.c3
    clear ih hd ht ht' hB hv hv' hg hwa hc hc' hva hva' hbw
    by_cases h1 : a.t = b.t
    · have e1 := int_beq_t h1
      rw [decide_eq_true h1] at HSD
      clear h1
      by_cases h2 : a.n = b.n
      · rw [decide_eq_true h2] at HSD EN
        clear h2
        by_cases h3 : a.s = b.s
        · rw [decide_eq_true h3] at HSD ES
          clear h3
          rw [show Vl.same a b = Vl.sames a.l b.l from HSD.out] at *
          clear HSD
          generalize Vl.sames a.l b.l = r at *
          go_enter Try.func31, Try.ntmps31
          go_wp2_with (first
            | (go_at_call 65; rw [← HWE.out]; refine (EN.out _ (gb_refl wa none)).mono ?_; rintro e w1 ⟨rfl, hg1⟩; have HG1 := hide hg1; clear hg1; have q2 := cell_gb q2 HG1.out; have k2 := cell_gb k2 HG1.out; have q3 := cell_gb q3 HG1.out; have k3 := cell_gb k3 HG1.out)
            | (go_at_call 66; refine (ES.out _ HG1.out).mono ?_; rintro e w2 ⟨rfl, hg2⟩; have HG2 := hide (gb_trans HG1.out hg2 (.inl rfl)); have q3 := cell_gb q3 hg2; have k3 := cell_gb k3 hg2; clear hg2)
            | (go_at_call 67; refine (EL.out _ HG2.out).mono ?_; rintro e w3 ⟨rfl, hg3⟩; have HG3 := hide (gb_trans HG2.out hg3 (.inl rfl)); clear hg3))
          go_ret
          exact ⟨ret_b (by simp), gb_trans HG.out HG3.out (.inl rfl)⟩
        · rw [decide_eq_false h3] at HSD ES
          clear h3
          go_enter Try.func31, Try.ntmps31
          go_wp2_with (first
            | (go_at_call 65; rw [← HWE.out]; refine (EN.out _ (gb_refl wa none)).mono ?_; rintro e w1 ⟨rfl, hg1⟩; have HG1 := hide hg1; clear hg1; have q2 := cell_gb q2 HG1.out; have k2 := cell_gb k2 HG1.out; have q3 := cell_gb q3 HG1.out; have k3 := cell_gb k3 HG1.out)
            | (go_at_call 66; refine (ES.out _ HG1.out).mono ?_; rintro e w2 ⟨rfl, hg2⟩; have HG2 := hide (gb_trans HG1.out hg2 (.inl rfl)); clear hg2))
          go_ret
          exact ⟨ret_b (by rw [HSD.out]; rfl), gb_trans HG.out HG2.out (.inl rfl)⟩
      · rw [decide_eq_false h2] at HSD EN
        clear h2
        go_enter Try.func31, Try.ntmps31
        go_wp2_with (go_at_call 65; rw [← HWE.out]; refine (EN.out _ (gb_refl wa none)).mono ?_; rintro e w1 ⟨rfl, hg1⟩; have HG1 := hide hg1; clear hg1)
        go_ret
        exact ⟨ret_b (by rw [HSD.out]; rfl), gb_trans HG.out HG1.out (.inl rfl)⟩
    · have e1 := int_beq_f h1
      rw [decide_eq_false h1] at HSD
      clear h1
      go_enter Try.func31, Try.ntmps31
      go_wp2_with fail
      go_ret
      exact ⟨ret_b (by rw [HSD.out]; rfl), by have := HG.out; rwa [HWE.out] at this⟩

theorem vMatch_any (a b : Vl) (w : World) (B : Nat) (nA : Option Addr) (nc : Nat) (sA : Option Addr) (sc : Nat) (lA : Option Addr) (lc : Nat) (nA' : Option Addr) (nc' : Nat) (sA' : Option Addr) (sc' : Nat) (lA' : Option Addr) (lc' : Nat) (ht : a.tot ≤ 1100000) (ht' : b.tot ≤ 1100000) (hB : B ≤ w.heap.size) (h : VB w B a nA nc sA sc lA lc) (h' : VB w B b nA' nc' sA' sc' lA' lc') :
    Calls Try.prog 31 #[.agg #[.int .i64 a.t, .slice nA a.n.length nc, .slice sA a.s.length sc, .slice lA a.l.length lc], .agg #[.int .i64 b.t, .slice nA' b.n.length nc', .slice sA' b.s.length sc', .slice lA' b.l.length lc']] w
      fun e w' => e = .returned (.bool (Vl.same a b)) ∧ w.grownBy w' none := vMatch_d a.depth a b w B nA nc sA sc lA lc nA' nc' sA' sc' lA' lc' (Nat.le_refl _) ht ht' hB h h'
theorem rMatch_any (a b : Vl) (w : World) (B : Nat) (nA : Option Addr) (nc : Nat) (sA : Option Addr) (sc : Nat) (lA : Option Addr) (lc : Nat) (nA' : Option Addr) (nc' : Nat) (sA' : Option Addr) (sc' : Nat) (lA' : Option Addr) (lc' : Nat) (ht : a.tot ≤ 1100000) (ht' : b.tot ≤ 1100000) (hB : B ≤ w.heap.size) (h : VB w B a nA nc sA sc lA lc) (h' : VB w B b nA' nc' sA' sc' lA' lc') :
    Calls Try.prog 32 #[.agg #[.int .i64 a.t, .slice nA a.n.length nc, .slice sA a.s.length sc, .slice lA a.l.length lc], .agg #[.int .i64 b.t, .slice nA' b.n.length nc', .slice sA' b.s.length sc', .slice lA' b.l.length lc']] w
      fun e w' => e = .returned (.bool (Vl.same a b)) ∧ w.grownBy w' none := rMatch_d a.depth a b w B nA nc sA sc lA lc nA' nc' sA' sc' lA' lc' (Nat.le_refl _) ht ht' hB h h'
end Go.Proofs.Ytfckmkpfhchggaa
