/-
  value.Of.
-/
import Derived.Test.YtgepejnooghjbaaGreatQaa
import Derived.Deep.RegionHeld3
import Derived.Deep.DrawnRows

namespace Go.Proofs.YtgepejnooghjbaaGreat
open Go.RowKit
attribute [local go_sem ↓] Go.wp_at_zero Go.wp_at_succ

theorem Vl.ne_t {a b : Vl} (h : ¬ a.t = b.t) : Vl.same a b = false := Vl.same_ne (by rintro rfl; exact h rfl)
theorem Vl.ne_n {a b : Vl} (h : ¬ a.n.length = b.n.length) : Vl.same a b = false := Vl.same_ne (by rintro rfl; exact h rfl)
theorem Vl.ne_s {a b : Vl} (h : ¬ a.s.length = b.s.length) : Vl.same a b = false := Vl.same_ne (by rintro rfl; exact h rfl)
theorem Vl.ne_l {a b : Vl} (h : ¬ a.l.length = b.l.length) : Vl.same a b = false := Vl.same_ne (by rintro rfl; exact h rfl)
theorem Vl.lens (v : Vl) (h : v.tot ≤ 1100000) : v.n.length ≤ 1100000 ∧ v.s.length ≤ 1100000 ∧ v.l.length ≤ 1100000 ∧ Vl.tots v.l ≤ 1100000 := by
  rw [Vl.tot_def] at h
  have := Vl.length_le_tots v.l
  omega
theorem Vl.tot_part {v : Vl} (h : v.tot ≤ 1100000) {x : Vl} (hx : x ∈ v.l) : x.tot ≤ 1100000 := by
  have h1 := (Vl.lens v h).2.2.2
  have h2 := Vl.tot_mem hx
  omega
theorem Vl.depth_part {v : Vl} {d : Nat} (h : v.depth ≤ d + 1) {x : Vl} (hx : x ∈ v.l) : x.depth ≤ d := by
  have := Vl.depth_lt hx
  omega
theorem int_bne_t {a b : Int} (h : a = b) : (a != b) = false := by rw [h]; simp
theorem int_bne_f {a b : Int} (h : ¬ a = b) : (a != b) = true := by rw [bne_iff_ne]; exact h
theorem nat_bne_t {a b : Nat} (h : a = b) : ((a : Int) != (b : Int)) = false := by rw [h]; simp
theorem nat_bne_f {a b : Nat} (h : ¬ a = b) : ((a : Int) != (b : Int)) = true := by rw [bne_iff_ne]; omega

set_option maxHeartbeats 8000000 in
set_option maxRecDepth 100000 in
theorem rMatch_d (d : Nat) : ∀ (a b : Vl) (w : World) (B : Nat) (nA : Option Addr) (nc : Nat) (sA : Option Addr) (sc : Nat) (lA : Option Addr) (lc : Nat) (nA' : Option Addr) (nc' : Nat) (sA' : Option Addr) (sc' : Nat) (lA' : Option Addr) (lc' : Nat), a.depth ≤ d → a.tot ≤ 1100000 → b.tot ≤ 1100000 → B ≤ w.heap.size → VB w B a nA nc sA sc lA lc → VB w B b nA' nc' sA' sc' lA' lc' →
    Calls Tryz.prog 19 #[.agg #[.int .i64 a.t, .slice nA a.n.length nc, .slice sA a.s.length sc, .slice lA a.l.length lc], .agg #[.int .i64 b.t, .slice nA' b.n.length nc', .slice sA' b.s.length sc', .slice lA' b.l.length lc']] w
      fun e w' => e = .returned (.bool (Vl.same a b)) ∧ w.grownBy w' none := by
  induction d with
  | zero => intro v; intros; rw [Vl.depth_def] at *; omega
  | succ d ih =>
    intro a b w B nA nc sA sc lA lc nA' nc' sA' sc' lA' lc' hd ht ht' hB hv hv'
    have IH := hide ih
    have HD := hide hd
    have HT := hide ht
    have HT' := hide ht'
    have HBB := hide hB
    obtain ⟨l1, l2, l3, _⟩ := Vl.lens a ht
    obtain ⟨m1, m2, m3, _⟩ := Vl.lens b ht'
    obtain ⟨wa, hwa⟩ : ∃ wa, wa = (w.alloc (.cells #[.int .i64 a.t, .slice nA a.n.length nc, .slice sA a.s.length sc, .slice lA a.l.length lc] 26)).alloc (.cells #[.int .i64 b.t, .slice nA' b.n.length nc', .slice sA' b.s.length sc', .slice lA' b.l.length lc'] 26) := ⟨_, rfl⟩
    have hg : w.grownBy wa none := by rw [hwa]; exact gb_alloc (gb_alloc (gb_refl w none) _) _
    have hc := (C4.box w (.int .i64 a.t) (.slice nA a.n.length nc) (.slice sA a.s.length sc) (.slice lA a.l.length lc) 26).gb (gb_alloc (gb_refl _ none) (.cells #[.int .i64 b.t, .slice nA' b.n.length nc', .slice sA' b.s.length sc', .slice lA' b.l.length lc'] 26))
    have hc' := C4.box2 w (.cells #[.int .i64 a.t, .slice nA a.n.length nc, .slice sA a.s.length sc, .slice lA a.l.length lc] 26) (.int .i64 b.t) (.slice nA' b.n.length nc') (.slice sA' b.s.length sc') (.slice lA' b.l.length lc') 26
    rw [← hwa] at hc hc'
    have HV := hide (hv.gb hg hB)
    have HV' := hide (hv'.gb hg hB)
    have HBW := hide (Nat.le_trans hB hg.size)
    have HG := hide hg
    have HWE := hide hwa
    have HC := hide hc
    have HC' := hide hc'
    clear ih hd ht ht' hB hv hv' hg hwa hc hc'
    by_cases h1 : a.t = b.t
    · have e1 := int_bne_t h1
      have H1 := hide h1
      clear h1
      by_cases h2 : a.n.length = b.n.length
      · have e2 := nat_bne_t h2
        have H2 := hide h2
        clear h2
        by_cases h3 : a.s.length = b.s.length
        · have e3 := nat_bne_t h3
          have H3 := hide h3
          clear h3
          by_cases h4 : a.l.length = b.l.length
          · have e4 := nat_bne_t h4
            have H4 := hide h4
            clear h4
            go_enter Tryz.func19, Tryz.ntmps19
            go_wp2_with fail
            rw [← HWE.out]
            have g1 : wa.cell? ⟨w.heap.size, 1, none⟩ = some (.slice nA a.n.length nc) := HC.out.c1
            have g2 : wa.cell? ⟨w.heap.size, 2, none⟩ = some (.slice sA a.s.length sc) := HC.out.c2
            have g3 : wa.cell? ⟨w.heap.size, 3, none⟩ = some (.slice lA a.l.length lc) := HC.out.c3
            have k1 : wa.cell? ⟨w.heap.size + 1, 1, none⟩ = some (.slice nA' b.n.length nc') := HC'.out.c1
            have k2 : wa.cell? ⟨w.heap.size + 1, 2, none⟩ = some (.slice sA' b.s.length sc') := HC'.out.c2
            have k3 : wa.cell? ⟨w.heap.size + 1, 3, none⟩ = some (.slice lA' b.l.length lc') := HC'.out.c3
            go_loopw [5] (fun i wr => ∃ j : Nat, i = .int .i64 (j : Int) ∧ j ≤ a.n.length ∧ a.n.take j = b.n.take j ∧ wa.grownBy wr none) (fun i _ => a.n.length - (intOf i).toNat)
            case atStart => exact ⟨0, rfl, by omega, rfl, gb_refl wa none⟩
            case round =>
              obtain ⟨j, rfl, hj, he, hg⟩ := hrel
              have HE := hide he
              have HG1 := hide hg
              clear he hg
              have g1 := cell_gb g1 HG1.out
              have k1 := cell_gb k1 HG1.out
              by_cases hlt : j < a.n.length
              · have hlt1 : (j : Int) < (a.n.length : Int) := by omega
                have hltm : j < b.n.length := by have := H2.out; omega
                have hlt2 : (j : Int) < (b.n.length : Int) := by omega
                obtain ⟨p, rfl, _, ca⟩ := HV.out.n.i64 hlt
                obtain ⟨p', rfl, _, ca'⟩ := HV'.out.n.i64 hltm
                have ca := cell_gb ca HG1.out
                have ca' := cell_gb ca' HG1.out
                by_cases hx : a.n[j] = b.n[j]
                · have hx2 := int_bne_t hx
                  have HX := hide hx
                  clear hx
                  go_wp2_with fail
                  go_quiet (fail)
                  go_wp2_with fail
                  go_roundw
                  case rel => exact ⟨j + 1, by go_num, by omega, take_eq_step HE.out hlt hltm HX.out, by first | exact gb_drewN HG1.out _ | exact HG1.out⟩
                  case measure => simp [intOf]; omega
                · have hx2 := int_bne_f hx
                  have HS : Hid (Vl.same a b = false) := hide (Vl.same_ne (by rintro rfl; exact hx rfl))
                  clear hx
                  go_wp2_with fail
                  go_quiet (fail)
                  go_wp2_with fail
                  go_ret
                  exact ⟨ret_b HS.out.symm, gb_drewN (gb_trans HG.out HG1.out (.inl rfl)) _⟩
              · have hlt1 : ¬ (j : Int) < (a.n.length : Int) := by omega
                have HN := hide (take_eq_all HE.out hlt H2.out)
                go_wp2_with fail
                obtain ⟨wo, rfl⟩ : ∃ wo : World, wo = wr := ⟨_, rfl⟩
                clear g1 k1
                go_loopw [6] (fun i wr => ∃ j : Nat, i = .int .i64 (j : Int) ∧ j ≤ a.s.length ∧ a.s.take j = b.s.take j ∧ wa.grownBy wr none) (fun i _ => a.s.length - (intOf i).toNat)
                case atStart => exact ⟨0, rfl, by omega, rfl, HG1.out⟩
                case round =>
                  obtain ⟨j, rfl, hj, he, hg⟩ := hrel
                  have HE := hide he
                  have HG1 := hide hg
                  clear he hg
                  have g2 := cell_gb g2 HG1.out
                  have k2 := cell_gb k2 HG1.out
                  by_cases hlt : j < a.s.length
                  · have hlt1 : (j : Int) < (a.s.length : Int) := by omega
                    have hltm : j < b.s.length := by have := H3.out; omega
                    have hlt2 : (j : Int) < (b.s.length : Int) := by omega
                    obtain ⟨p, rfl, _, ca⟩ := HV.out.s.str hlt
                    obtain ⟨p', rfl, _, ca'⟩ := HV'.out.s.str hltm
                    have ca := cell_gb ca HG1.out
                    have ca' := cell_gb ca' HG1.out
                    by_cases hx : a.s[j] = b.s[j]
                    · have hx2 := ba_eq hx
                      have HX := hide hx
                      clear hx
                      go_wp2_with fail
                      go_quiet (fail)
                      go_wp2_with fail
                      go_roundw
                      case rel => exact ⟨j + 1, by go_num, by omega, take_eq_step HE.out hlt hltm HX.out, by first | exact gb_drewN HG1.out _ | exact HG1.out⟩
                      case measure => simp [intOf]; omega
                    · have hx2 := ba_ne hx
                      have HS : Hid (Vl.same a b = false) := hide (Vl.same_ne (by rintro rfl; exact hx rfl))
                      clear hx
                      go_wp2_with fail
                      go_quiet (fail)
                      go_wp2_with fail
                      go_ret
                      exact ⟨ret_b HS.out.symm, gb_drewN (gb_trans HG.out HG1.out (.inl rfl)) _⟩
                  · have hlt1 : ¬ (j : Int) < (a.s.length : Int) := by omega
                    have HN2 := hide (take_eq_all HE.out hlt H3.out)
                    go_wp2_with fail
                    obtain ⟨wo, rfl⟩ : ∃ wo : World, wo = wr := ⟨_, rfl⟩
                    clear g2 k2
                    go_loopw [7] (fun i wr => ∃ j : Nat, i = .int .i64 (j : Int) ∧ j ≤ a.l.length ∧ a.l.take j = b.l.take j ∧ wa.grownBy wr none) (fun i _ => a.l.length - (intOf i).toNat)
                    case atStart => exact ⟨0, rfl, by omega, rfl, HG1.out⟩
                    case round =>
                      obtain ⟨j, rfl, hj, he, hg⟩ := hrel
                      have HE := hide he
                      have HG1 := hide hg
                      clear he hg
                      have g3 := cell_gb g3 HG1.out
                      have k3 := cell_gb k3 HG1.out
                      by_cases hlt : j < a.l.length
                      · have hlt1 : (j : Int) < (a.l.length : Int) := by omega
                        have hltm : j < b.l.length := by have := H4.out; omega
                        have hlt2 : (j : Int) < (b.l.length : Int) := by omega
                        obtain ⟨q, o, xA, xc, yA, yc, zA, zc, rfl, hqB, hc4, hvb⟩ := HV.out.l.at_ hlt
                        obtain ⟨q', o', xA', xc', yA', yc', zA', zc', rfl, hqB', hc4', hvb'⟩ := HV'.out.l.at_ hltm
                        obtain ⟨d0, d1, d2, d3⟩ := hc4.gb HG1.out
                        obtain ⟨f0, f1, f2, f3⟩ := hc4'.gb HG1.out
                        have HCALL := hide (IH.out a.l[j] b.l[j] wr.drew B xA xc yA yc zA zc xA' xc' yA' yc' zA' zc' (Vl.depth_part HD.out (List.getElem_mem hlt)) (Vl.tot_part HT.out (List.getElem_mem hlt)) (Vl.tot_part HT'.out (List.getElem_mem hltm)) (Nat.le_trans HBW.out HG1.out.size) ((hvb.gb HG1.out HBW.out).gb (gb_drew (gb_refl wr none)) (Nat.le_trans HBW.out HG1.out.size)) ((hvb'.gb HG1.out HBW.out).gb (gb_drew (gb_refl wr none)) (Nat.le_trans HBW.out HG1.out.size)))
                        clear hc4 hc4' hvb hvb'
                        have HGW := hide HG1.out
                        by_cases hx : Vl.same a.l[j] b.l[j] = true
                        · rw [hx] at HCALL
                          have HX := hide ((Vl.same_eq _ _).1 hx)
                          clear hx
                          go_wp2_with fail
                          go_region_held3 (fun w' => w'.cell? ⟨w.heap.size, 3, none⟩ = some (.slice (some ⟨q, o, none⟩) a.l.length lc) ∧ w'.cell? ⟨w.heap.size + 1, 3, none⟩ = some (.slice (some ⟨q', o', none⟩) b.l.length lc') ∧ w'.cell? ⟨q, o + j * 4, none⟩ = some (.int .i64 a.l[j].t) ∧ w'.cell? ⟨q, o + j * 4 + 1, none⟩ = some (.slice xA a.l[j].n.length xc) ∧ w'.cell? ⟨q, o + j * 4 + 2, none⟩ = some (.slice yA a.l[j].s.length yc) ∧ w'.cell? ⟨q, o + j * 4 + 3, none⟩ = some (.slice zA a.l[j].l.length zc) ∧ w'.cell? ⟨q', o' + j * 4, none⟩ = some (.int .i64 b.l[j].t) ∧ w'.cell? ⟨q', o' + j * 4 + 1, none⟩ = some (.slice xA' b.l[j].n.length xc') ∧ w'.cell? ⟨q', o' + j * 4 + 2, none⟩ = some (.slice yA' b.l[j].s.length yc') ∧ w'.cell? ⟨q', o' + j * 4 + 3, none⟩ = some (.slice zA' b.l[j].l.length zc')) (first | exact ⟨g3, k3, d0, d1, d2, d3, f0, f1, f2, f3⟩ | exact ⟨cell_gb g3 HG6.out, cell_gb k3 HG6.out, cell_gb d0 HG6.out, cell_gb d1 HG6.out, cell_gb d2 HG6.out, cell_gb d3 HG6.out, cell_gb f0 HG6.out, cell_gb f1 HG6.out, cell_gb f2 HG6.out, cell_gb f3 HG6.out⟩ | go_keep) ((go_simp; go_at_call 19; refine HCALL.out.mono ?_; rintro e w6 ⟨rfl, hg6⟩; have HG6 := hide (show wr.grownBy w6 none from gb_trans (gb_drew (gb_refl wr none)) hg6 (.inl rfl)); clear hg6))
                          go_wp2_with fail
                          go_roundw
                          case rel => exact ⟨j + 1, by go_num, by omega, take_eq_step HE.out hlt hltm HX.out, gb_trans HG1.out HG6.out (.inl rfl)⟩
                          case measure => simp [intOf]; omega
                        · have hx := Bool.eq_false_iff.2 hx
                          rw [hx] at HCALL
                          have HS : Hid (Vl.same a b = false) := hide (Vl.same_ne (by rintro rfl; rw [Vl.same_refl] at hx; cases hx))
                          clear hx
                          go_wp2_with fail
                          go_region_held3 (fun w' => w'.cell? ⟨w.heap.size, 3, none⟩ = some (.slice (some ⟨q, o, none⟩) a.l.length lc) ∧ w'.cell? ⟨w.heap.size + 1, 3, none⟩ = some (.slice (some ⟨q', o', none⟩) b.l.length lc') ∧ w'.cell? ⟨q, o + j * 4, none⟩ = some (.int .i64 a.l[j].t) ∧ w'.cell? ⟨q, o + j * 4 + 1, none⟩ = some (.slice xA a.l[j].n.length xc) ∧ w'.cell? ⟨q, o + j * 4 + 2, none⟩ = some (.slice yA a.l[j].s.length yc) ∧ w'.cell? ⟨q, o + j * 4 + 3, none⟩ = some (.slice zA a.l[j].l.length zc) ∧ w'.cell? ⟨q', o' + j * 4, none⟩ = some (.int .i64 b.l[j].t) ∧ w'.cell? ⟨q', o' + j * 4 + 1, none⟩ = some (.slice xA' b.l[j].n.length xc') ∧ w'.cell? ⟨q', o' + j * 4 + 2, none⟩ = some (.slice yA' b.l[j].s.length yc') ∧ w'.cell? ⟨q', o' + j * 4 + 3, none⟩ = some (.slice zA' b.l[j].l.length zc')) (first | exact ⟨g3, k3, d0, d1, d2, d3, f0, f1, f2, f3⟩ | exact ⟨cell_gb g3 HG6.out, cell_gb k3 HG6.out, cell_gb d0 HG6.out, cell_gb d1 HG6.out, cell_gb d2 HG6.out, cell_gb d3 HG6.out, cell_gb f0 HG6.out, cell_gb f1 HG6.out, cell_gb f2 HG6.out, cell_gb f3 HG6.out⟩ | go_keep) ((go_simp; go_at_call 19; refine HCALL.out.mono ?_; rintro e w6 ⟨rfl, hg6⟩; have HG6 := hide (show wr.grownBy w6 none from gb_trans (gb_drew (gb_refl wr none)) hg6 (.inl rfl)); clear hg6))
                          go_wp2_with fail
                          go_ret
                          exact ⟨ret_b HS.out.symm, gb_trans HG.out (gb_trans HG1.out HG6.out (.inl rfl)) (.inl rfl)⟩
                      · have hlt1 : ¬ (j : Int) < (a.l.length : Int) := by omega
                        have HS : Hid (Vl.same a b = true) := hide ((Vl.same_eq _ _).2 (by rw [Vl.eta a, Vl.eta b, H1.out, HN.out, HN2.out, take_eq_all HE.out hlt H4.out]))
                        go_wp2_with fail
                        go_ret
                        exact ⟨ret_b HS.out.symm, gb_trans HG.out HG1.out (.inl rfl)⟩
          · have e4 := nat_bne_f h4
            have HS := hide (Vl.ne_l h4)
            clear h4
            go_enter Tryz.func19, Tryz.ntmps19
            go_wp2_with fail
            go_ret
            exact ⟨ret_b HS.out.symm, by have := HG.out; rwa [HWE.out] at this⟩
        · have e3 := nat_bne_f h3
          have HS := hide (Vl.ne_s h3)
          clear h3
          go_enter Tryz.func19, Tryz.ntmps19
          go_wp2_with fail
          go_ret
          exact ⟨ret_b HS.out.symm, by have := HG.out; rwa [HWE.out] at this⟩
      · have e2 := nat_bne_f h2
        have HS := hide (Vl.ne_n h2)
        clear h2
        go_enter Tryz.func19, Tryz.ntmps19
        go_wp2_with fail
        go_ret
        exact ⟨ret_b HS.out.symm, by have := HG.out; rwa [HWE.out] at this⟩
    · have e1 := int_bne_f h1
      have HS := hide (Vl.ne_t h1)
      clear h1
      go_enter Tryz.func19, Tryz.ntmps19
      go_wp2_with fail
      go_ret
      exact ⟨ret_b HS.out.symm, by have := HG.out; rwa [HWE.out] at this⟩
end Go.Proofs.YtgepejnooghjbaaGreat

namespace Go.Proofs.YtgepejnooghjbaaGreat
open Go.RowKit
attribute [local go_sem ↓] Go.wp_at_zero Go.wp_at_succ

/-- What a copy of a value is: of the same value, in new blocks, which nobody else has. -/
def NewV (v : Vl) (w : World) (e : Ending) (w' : World) : Prop := ∃ nA nc sA sc lA lc f, e = .returned (.agg #[.int .i64 v.t, .slice nA v.n.length nc, .slice sA v.s.length sc, .slice lA v.l.length lc]) ∧
  VOw w' v [.int .i64 v.t, .slice nA v.n.length nc, .slice sA v.s.length sc, .slice lA v.l.length lc] f ∧ New w w' f ∧ w.grownBy w' none
/-- value.Clone on values of that depth. -/
def CloneC (d : Nat) : Prop := ∀ (v : Vl) (w : World) (B : Nat) (nA : Option Addr) (nc : Nat) (sA : Option Addr) (sc : Nat) (lA : Option Addr) (lc : Nat), v.depth ≤ d → v.tot ≤ 1100000 → B ≤ w.heap.size → VB w B v nA nc sA sc lA lc →
    Calls Tryz.prog 89 #[.agg #[.int .i64 v.t, .slice nA v.n.length nc, .slice sA v.s.length sc, .slice lA v.l.length lc]] w (NewV v w)
/-- What a copy of a list is. -/
def NewL (l : List Vl) (w : World) (e : Ending) (w' : World) : Prop := ∃ A c xs f g, e = .returned (.slice A l.length c) ∧ l.length ≤ c ∧ Own w' f A (List.flatten xs) ∧ VOwAll w' l xs g ∧ New w w' (f ++ g) ∧ w.grownBy w' none

theorem Tryz.infoV : (Tryz.prog.info? 26).map (fun i => (i.zero, i.size, i.bytes)) = some (some (.agg #[.int .i64 0, .slice none 0 0, .slice none 0 0, .slice none 0 0]), 4, 80) := by kernel_rfl

/-- The first j of a list are copied into block g. -/
def Fill (w : World) (l : List Vl) (j : Nat) (wr : World) : Prop := ∃ xs f cur, wr.heap[w.heap.size]? = some (.cells cur 26 (0, 0)) ∧ cur.size = l.length * 4 ∧ cur.toList.take (j * 4) = List.flatten xs ∧ VOwAll wr (l.take j) xs f ∧ f.Nodup ∧ (∀ b ∈ f, w.heap.size < b) ∧ w.grownBy wr none

theorem Fill.step {w wr wa w6 : World} {l : List Vl} {j : Nat} {xs : List (List Value)} {f f6 : List Nat} {cur : Array Value} {c0 c1 c2 c3 : Value} (hlt : j < l.length) (hh6 : w6.heap[w.heap.size]? = some (.cells cur 26 (0, 0))) (hs : cur.size = l.length * 4)
    (htk : cur.toList.take (j * 4) = List.flatten xs) (hall : VOwAll wr (l.take j) xs f) (hnd : f.Nodup) (hbig : ∀ b ∈ f, w.heap.size < b) (hg : w.grownBy wr none) (hga : wr.grownBy wa none) (hg6 : wa.grownBy w6 none)
    (hw : w.heap.size < wr.heap.size) (ho6 : VOw w6 l[j] [c0, c1, c2, c3] f6) (hn6 : New wa w6 f6) : Fill w l (j + 1) (put4 w6 w.heap.size (j * 4) c0 c1 c2 c3) := by
  have h1 := hga.size
  have h2 := hg6.size
  have hk : ∀ b, b < w6.heap.size → b ≠ w.heap.size → (put4 w6 w.heap.size (j * 4) c0 c1 c2 c3).heap[b]? = w6.heap[b]? := fun b hb hne => (put4_gb w6 w.heap.size (j * 4) c0 c1 c2 c3).block b hb (by intro e; injection e with e; exact hne e)
  refine ⟨xs ++ [[c0, c1, c2, c3]], f ++ f6, _, put4_blk hh6 c0 c1 c2 c3, by simp [hs], ?_, ?_, ?_, ?_, ?_⟩
  · rw [show (j + 1) * 4 = j * 4 + 4 by omega, put4_take cur (j * 4) (by omega), htk, List.flatten_append]
    simp
  · rw [List.take_succ_eq_append_getElem hlt]
    refine VOwAll.snoc _ _ _ (VOwAll.keep _ _ _ hall fun b hb => ?_) (VOw.keep _ _ _ ho6 fun b hb => ?_)
    · have hb1 := VOwAll.lt _ _ _ hall b hb
      have hb2 := hbig b hb
      rw [hk b (by omega) (by omega), hg6.block b (by omega) (by simp), hga.block b (by omega) (by simp)]
    · have hb1 := hn6.2 b hb
      exact hk b (by omega) (by omega)
  · refine List.nodup_append.2 ⟨hnd, hn6.1, fun x hx y hy e => ?_⟩
    have := VOwAll.lt _ _ _ hall x hx
    have := (hn6.2 y hy).1
    omega
  · intro b hb
    rcases List.mem_append.1 hb with hb | hb
    · exact hbig b hb
    · have := (hn6.2 b hb).1
      omega
  · exact gb_trans (gb_trans hg (gb_trans hga hg6 (.inl rfl)) (.inl rfl)) (put4_gb w6 w.heap.size (j * 4) c0 c1 c2 c3) (.inr (.inr ⟨_, rfl, Nat.le_refl _⟩))
theorem Fill.done {w wr : World} {l : List Vl} (h : Fill w l l.length wr) (h0 : 0 < l.length) : NewL l w (.returned (.slice (some ⟨w.heap.size, 0, none⟩) l.length l.length)) wr := by
  obtain ⟨xs, f, cur, hh, hs, htk, hall, hnd, hbig, hg⟩ := h
  rw [List.take_length] at hall
  have hlen : (List.flatten xs).length = l.length * 4 := by rw [flat4_length hall.all4, hall.length]
  have hne : List.flatten xs ≠ [] := by intro e; rw [e] at hlen; simp at hlen; omega
  refine ⟨_, _, xs, [w.heap.size], f, rfl, Nat.le_refl _, .inr ⟨_, _, cur, rfl, rfl, hh, by rw [hlen]; exact htk, hne⟩, hall, ⟨?_, ?_⟩, hg⟩
  · simp only [List.singleton_append, List.nodup_cons]
    exact ⟨fun hm => by have := hbig _ hm; omega, hnd⟩
  · intro b hb
    rcases List.mem_append.1 hb with hb | hb
    · obtain rfl := List.mem_singleton.1 hb
      exact ⟨Nat.le_refl _, blk_lt hh⟩
    · exact ⟨Nat.le_of_lt (hbig b hb), VOwAll.lt _ _ _ hall b hb⟩

set_option maxHeartbeats 8000000 in
set_option maxRecDepth 100000 in
theorem cloneAll_of {d : Nat} (hC : CloneC d) (l : List Vl) (w : World) (B : Nat) (A : Option Addr) (c : Nat) (hd : ∀ x ∈ l, x.depth ≤ d) (ht : Vl.tots l ≤ 1100000) (hB : B ≤ w.heap.size) (h : RdV w B A l) :
    Calls Tryz.prog 135 #[.slice A l.length c] w (NewL l w) := by
  by_cases h0 : l = []
  · subst h0
    go_enter Tryz.func135, Tryz.ntmps135
    go_wp2_with fail
    go_ret
    exact ⟨none, 0, [], [], [], rfl, Nat.le_refl _, .inl ⟨rfl, rfl⟩, ⟨rfl, rfl⟩, New.nil_ _ _, gb_refl w none⟩
  have hl0 : 0 < l.length := List.length_pos_iff.2 h0
  have IH := hide hC
  have H := hide h
  have HD := hide hd
  have HT := hide (fun x (hx : x ∈ l) => Nat.le_trans (Vl.tot_mem hx) ht)
  have l1 : l.length ≤ 1100000 := Nat.le_trans (Vl.length_le_tots l) ht
  have HBB := hide hB
  have e0 : ((l.length : Int) == 0) = false := beq_eq_false_iff_ne.2 (by omega)
  obtain ⟨i1, hi1, hiz, his, hib⟩ := info_parts Tryz.infoV
  have HI1 := hide hi1
  have HIZ := hide hiz
  have HIS := hide his
  have HIB := hide (show i1.bytes * l.length ≤ 281474976710656 by rw [hib]; omega)
  have HML := hide (show l.length ≤ maxLen by unfold maxLen; omega)
  clear hC h hd ht hB h0 hi1 hiz his hib
  go_enter Tryz.func135, Tryz.ntmps135
  go_wp2_with (refine wpList_make_full _ rfl (.tmp 10) (.tmp 10) 24 rfl w.heap.size 26 i1 (.agg #[.int .i64 0, .slice none 0 0, .slice none 0 0, .slice none 0 0]) 4 Tryz.underlying24 HI1.out HIZ.out HIS.out .i64 .i64 _ _ l.length rfl rfl rfl rfl HIB.out HML.out (Nat.le_refl _) ?_; intro w1 ho1 hg1; have HO1 := hide ho1; have HG1 := hide hg1; clear ho1 hg1)
  go_loopw [14] (fun i wr => ∃ j : Nat, i = .int .i64 (j : Int) ∧ j ≤ l.length ∧ Fill w l j wr) (fun i _ => l.length - (intOf i).toNat)
  case atStart =>
    refine ⟨0, rfl, Nat.zero_le _, [], [], ?_⟩
    rcases HO1.out.2 with ⟨h, _⟩ | ⟨g, cap, cur, hv, _, hh, _, _, hs, _⟩
    · cases h
    · injection hv with e1 e2 e3
      subst e3
      obtain rfl : w.heap.size = g := by simpa using e1
      exact ⟨cur, hh, hs, by simp, ⟨rfl, rfl⟩, List.nodup_nil, by simp, HG1.out⟩
  case round =>
    obtain ⟨j, rfl, hj, hfill⟩ := hrel
    have HF := hide hfill
    clear hfill
    by_cases hlt : j < l.length
    · have hlt1 : (j : Int) < (l.length : Int) := by omega
      obtain ⟨xs, f, cur, hh, hs, htk, hall, hnd, hbig, hg⟩ := HF.out
      obtain ⟨q, o, xA, xc, yA, yc, zA, zc, rfl, hqB, hc4, hvb⟩ := H.out.at_ hlt
      obtain ⟨d0, d1, d2, d3⟩ := hc4.gb hg
      have hga : wr.grownBy (wr.alloc (.cells #[.int .i64 l[j].t, .slice xA l[j].n.length xc, .slice yA l[j].s.length yc, .slice zA l[j].l.length zc] 26)) none := gb_alloc (gb_refl wr none) _
      have hgw := gb_trans hg hga (.inl rfl)
      have HCALL := hide (IH.out l[j] _ B xA xc yA yc zA zc (HD.out _ (List.getElem_mem hlt)) (HT.out _ (List.getElem_mem hlt)) (Nat.le_trans HBB.out hgw.size) (hvb.gb hgw HBB.out))
      have HGA := hide hga
      have HH := hide hh
      have HS := hide hs
      have HTK := hide htk
      have HALL := hide hall
      have HND := hide hnd
      have HBIG := hide hbig
      have HGG := hide hg
      clear hc4 hvb hga hgw hh hs htk hall hnd hbig hg
      go_wp2_with fail
      refine HCALL.out.mono ?_
      rintro e w6 ⟨aA, ac, bA, bc, cA, cc, f6, rfl, ho6, hn6, hg6⟩
      have HO6 := hide ho6
      have HN6 := hide hn6
      have HG6 := hide hg6
      clear ho6 hn6 hg6
      have hh6 := (HG6.out.block _ (by have := blk_lt HH.out; have := HGA.out.size; omega) (by simp)).trans ((HGA.out.block _ (blk_lt HH.out) (by simp)).trans HH.out)
      have hi4 : j * 4 + 4 ≤ cur.size := (by have := HS.out; omega)
      obtain ⟨u0, u1, u2, u3, p0, p1, p2, p3⟩ := four_cells hh6 hi4
      have z0 := blk_frozen hh6 (j * 4)
      have z1 := blk_frozen hh6 (j * 4 + 1)
      have z2 := blk_frozen hh6 (j * 4 + 2)
      have z3 := blk_frozen hh6 (j * 4 + 3)
      have HH6 := hide hh6
      have HI4 := hide hi4
      clear hh6 hi4
      go_wp2_with fail
      go_roundw
      case rel => exact ⟨j + 1, by go_num, by omega, Fill.step hlt HH6.out HS.out HTK.out HALL.out HND.out HBIG.out HGG.out HGA.out HG6.out (blk_lt HH.out) HO6.out HN6.out⟩
      case measure => simp [intOf]; omega
    · have hlt1 : ¬ (j : Int) < (l.length : Int) := by omega
      have HE := hide (show j = l.length by omega)
      go_wp2_with fail
      go_ret
      exact Fill.done (by rw [← HE.out]; exact HF.out) hl0

theorem NewV.of_parts {v : Vl} {w wa w1 w2 w3 : World} {A1 A2 A3 : Option Addr} {c1 c2 c3 : Nat} {xs : List (List Value)} {f g : List Nat} (hsz : wa.heap.size = w.heap.size + 2) (hg : w.grownBy wa none)
    (hc1 : v.n.length ≤ c1) (ho1 : w1.ownsRow wa.heap.size 2 1 (.slice A1 v.n.length c1) v.n.length (i64s v.n)) (hg1 : wa.grownBy w1 none)
    (hc2 : v.s.length ≤ c2) (ho2 : w2.ownsRow w1.heap.size 9 1 (.slice A2 v.s.length c2) v.s.length (strs v.s)) (hg2 : w1.grownBy w2 none)
    (hc3 : v.l.length ≤ c3) (ho3 : Own w3 f A3 (List.flatten xs)) (ha : VOwAll w3 v.l xs g) (hn : New w2 w3 (f ++ g)) (hg3 : w2.grownBy w3 none) :
    NewV v w (.returned (.agg #[.int .i64 v.t, .slice A1 v.n.length c1, .slice A2 v.s.length c2, .slice A3 v.l.length c3])) (put4 w3 (w.heap.size + 1) 0 (.int .i64 v.t) (.slice A1 v.n.length c1) (.slice A2 v.s.length c2) (.slice A3 v.l.length c3)) := by
  obtain ⟨f1, o1, b1⟩ := Own.of_row ho1
  obtain ⟨f2, o2, b2⟩ := Own.of_row ho2
  have s1 := hg1.size
  have s2 := hg2.size
  have s3 := hg3.size
  have hk : ∀ b, b < w3.heap.size → b ≠ w.heap.size + 1 → (put4 w3 (w.heap.size + 1) 0 (.int .i64 v.t) (.slice A1 v.n.length c1) (.slice A2 v.s.length c2) (.slice A3 v.l.length c3)).heap[b]? = w3.heap[b]? := fun b hb hne => (put4_gb w3 (w.heap.size + 1) 0 _ _ _ _).block b hb (by intro e; injection e with e; exact hne e)
  have hs4 := put4_size w3 (w.heap.size + 1) 0 (.int .i64 v.t) (.slice A1 v.n.length c1) (.slice A2 v.s.length c2) (.slice A3 v.l.length c3)
  refine ⟨A1, c1, A2, c2, A3, c3, f1 ++ (f2 ++ (f ++ g)), rfl, VOw.mk_ ⟨hc1, hc2, hc3⟩ (o1.keep fun b hb => ?_) (o2.keep fun b hb => ?_) (ho3.keep fun b hb => ?_) (VOwAll.keep _ _ _ ha fun b hb => ?_), ?_, ?_⟩
  · have := b1 b hb
    rw [hk b (by omega) (by omega), hg3.block b (by omega) (by simp), hg2.block b (by omega) (by simp)]
  · have := b2 b hb
    rw [hk b (by omega) (by omega), hg3.block b (by omega) (by simp)]
  · have := hn.2 b (by simp [hb])
    exact hk b (by omega) (by omega)
  · have := hn.2 b (by simp [hb])
    exact hk b (by omega) (by omega)
  · have n1 : New wa w1 f1 := New.one b1 o1.len (Nat.le_refl _)
    have n2 : New w1 w2 f2 := New.one b2 o2.len (Nat.le_refl _)
    exact ((n1.app (n2.app hn s2 s3) s1 (by omega)).more (by omega)).less (by omega)
  · exact gb_trans (gb_trans hg (gb_trans hg1 (gb_trans hg2 hg3 (.inl rfl)) (.inl rfl)) (.inl rfl)) (put4_gb w3 (w.heap.size + 1) 0 _ _ _ _) (.inr (.inr ⟨_, rfl, by omega⟩))

set_option maxHeartbeats 8000000 in
set_option maxRecDepth 100000 in
theorem vClone_d (d : Nat) : CloneC d := by
  induction d with
  | zero => intro v; intros; rw [Vl.depth_def] at *; omega
  | succ d ih =>
    intro v w B nA nc sA sc lA lc hd ht hB hv
    obtain ⟨l1, l2, l3, l4⟩ := Vl.lens v ht
    obtain ⟨wa, hwa⟩ : ∃ wa, wa = (w.alloc (.cells #[.int .i64 v.t, .slice nA v.n.length nc, .slice sA v.s.length sc, .slice lA v.l.length lc] 26)).alloc (.cells #[.int .i64 0, .slice none 0 0, .slice none 0 0, .slice none 0 0] 26) := ⟨_, rfl⟩
    have hg : w.grownBy wa none := by rw [hwa]; exact gb_alloc (gb_alloc (gb_refl w none) _) _
    have hc := (C4.box w (.int .i64 v.t) (.slice nA v.n.length nc) (.slice sA v.s.length sc) (.slice lA v.l.length lc) 26).gb (gb_alloc (gb_refl _ none) (.cells #[.int .i64 0, .slice none 0 0, .slice none 0 0, .slice none 0 0] 26))
    have hr : wa.heap[w.heap.size + 1]? = some (.cells #[.int .i64 0, .slice none 0 0, .slice none 0 0, .slice none 0 0] 26 (0, 0)) := by
      have h := heap_alloc_new (w.alloc (.cells #[.int .i64 v.t, .slice nA v.n.length nc, .slice sA v.s.length sc, .slice lA v.l.length lc] 26)) (.cells #[.int .i64 0, .slice none 0 0, .slice none 0 0, .slice none 0 0] 26)
      have e : (w.alloc (.cells #[.int .i64 v.t, .slice nA v.n.length nc, .slice sA v.s.length sc, .slice lA v.l.length lc] 26)).heap.size = w.heap.size + 1 := by simp
      rw [e] at h
      rw [hwa]
      exact h
    rw [← hwa] at hc
    have hbw := Nat.le_trans hB hg.size
    have hva := hv.gb hg hB
    have EN := hide (fun w2 (k : wa.grownBy w2 none) => cloneI_any nA nc B v.n w2 (hva.gb k hbw).n (Nat.le_trans hbw k.size) l1)
    have ES := hide (fun w2 (k : wa.grownBy w2 none) => cloneS_any sA sc B v.s w2 (hva.gb k hbw).s (Nat.le_trans hbw k.size) l2)
    have EL := hide (fun w2 (k : wa.grownBy w2 none) => cloneAll_of ih v.l w2 B lA lc (fun x hx => Vl.depth_part hd hx) l4 (Nat.le_trans hbw k.size) (hva.gb k hbw).l)
    have HG := hide hg
    have HWE := hide hwa
    have HR := hide hr
    have HSZ := hide (show wa.heap.size = w.heap.size + 2 by rw [hwa]; simp)
    have q0 : wa.cell? ⟨w.heap.size, 0, none⟩ = some (.int .i64 v.t) := hc.c0
    have q1 : wa.cell? ⟨w.heap.size, 1, none⟩ = some (.slice nA v.n.length nc) := hc.c1
    have q2 : wa.cell? ⟨w.heap.size, 2, none⟩ = some (.slice sA v.s.length sc) := hc.c2
    have q3 : wa.cell? ⟨w.heap.size, 3, none⟩ = some (.slice lA v.l.length lc) := hc.c3
    clear ih hd ht hB hv hg hwa hc hva hbw hr
    go_enter Tryz.func89, Tryz.ntmps89
    go_wp2_with fail
    rw [← HWE.out]
    go_region_held3 (fun w' => w'.cell? ⟨w.heap.size, 0, none⟩ = some (.int .i64 v.t) ∧ w'.cell? ⟨w.heap.size, 1, none⟩ = some (.slice nA v.n.length nc) ∧ w'.cell? ⟨w.heap.size, 2, none⟩ = some (.slice sA v.s.length sc) ∧ w'.cell? ⟨w.heap.size, 3, none⟩ = some (.slice lA v.l.length lc))
      (first | exact ⟨q0, q1, q2, q3⟩ | exact ⟨cell_gb q0 HG3.out, cell_gb q1 HG3.out, cell_gb q2 HG3.out, cell_gb q3 HG3.out⟩ | exact ⟨cell_gb q0 HG2.out, cell_gb q1 HG2.out, cell_gb q2 HG2.out, cell_gb q3 HG2.out⟩ | exact ⟨cell_gb q0 HG1.out, cell_gb q1 HG1.out, cell_gb q2 HG1.out, cell_gb q3 HG1.out⟩ | go_keep)
      (first
        | (go_simp; go_at_call 133; refine (EN.out _ (gb_drew (gb_refl wa none))).mono ?_; rintro e w1 ⟨A1, c1, rfl, hc1, ho1, hg1⟩; have HC1 := hide hc1; have HO1 := hide ho1; have HG1 := hide (show wa.grownBy w1 none from gb_trans (gb_drew (gb_refl wa none)) hg1 (.inl rfl)); have HS1 := hide hg1.size; clear hc1 ho1 hg1)
        | (go_simp; go_at_call 134; refine (ES.out _ HG1.out).mono ?_; rintro e w2 ⟨A2, c2, rfl, hc2, ho2, hg2⟩; have HC2 := hide hc2; have HO2 := hide ho2; have HG12 := hide hg2; have HG2 := hide (gb_trans HG1.out hg2 (.inl rfl)); clear hc2 ho2 hg2)
        | (go_simp; go_at_call 135; refine (EL.out _ HG2.out).mono ?_; rintro e w3 ⟨A3, c3, xs, f, g, rfl, hc3, ho3, hall3, hn3, hg3⟩; have HC3 := hide hc3; have HO3 := hide ho3; have HA3 := hide hall3; have HN3 := hide hn3; have HG23 := hide hg3; have HG3 := hide (gb_trans HG2.out hg3 (.inl rfl)); have hr3 := (HG3.out.block _ (blk_lt HR.out) (by simp)).trans HR.out; have p0 : w3.cell? ⟨w.heap.size + 1, 0, none⟩ = some (.int .i64 0) := (by rw [blk_cell hr3]; rfl); have p1 : w3.cell? ⟨w.heap.size + 1, 1, none⟩ = some (.slice none 0 0) := (by rw [blk_cell hr3]; rfl); have p2 : w3.cell? ⟨w.heap.size + 1, 2, none⟩ = some (.slice none 0 0) := (by rw [blk_cell hr3]; rfl); have p3 : w3.cell? ⟨w.heap.size + 1, 3, none⟩ = some (.slice none 0 0) := (by rw [blk_cell hr3]; rfl); have z0 := blk_frozen hr3 0; have z1 := blk_frozen hr3 1; have z2 := blk_frozen hr3 2; have z3 := blk_frozen hr3 3; have HR3 := hide hr3; clear hc3 ho3 hall3 hn3 hg3 hr3))
    go_wp2_with fail
    refine bodyPost_ret (v := .agg #[.int .i64 v.t, .slice A1 v.n.length c1, .slice A2 v.s.length c2, .slice A3 v.l.length c3]) (by simp [results, Tryz.results89, go_sem, p0, p1, p2, p3]) rfl ?_
    exact NewV.of_parts HSZ.out HG.out HC1.out HO1.out HG1.out HC2.out HO2.out HG12.out HC3.out HO3.out HA3.out HN3.out HG23.out
end Go.Proofs.YtgepejnooghjbaaGreat

namespace Go.Proofs.YtgepejnooghjbaaGreat
open Go.RowKit
attribute [local go_sem ↓] Go.wp_at_zero Go.wp_at_succ

/-- value.Match on values of that depth. -/
def MatchC (d : Nat) : Prop := ∀ (a b : Vl) (w : World) (B : Nat) (nA : Option Addr) (nc : Nat) (sA : Option Addr) (sc : Nat) (lA : Option Addr) (lc : Nat) (nA' : Option Addr) (nc' : Nat) (sA' : Option Addr) (sc' : Nat) (lA' : Option Addr) (lc' : Nat), a.depth ≤ d → a.tot ≤ 1100000 → b.tot ≤ 1100000 → B ≤ w.heap.size → VB w B a nA nc sA sc lA lc → VB w B b nA' nc' sA' sc' lA' lc' →
    Calls Tryz.prog 36 #[.agg #[.int .i64 a.t, .slice nA a.n.length nc, .slice sA a.s.length sc, .slice lA a.l.length lc], .agg #[.int .i64 b.t, .slice nA' b.n.length nc', .slice sA' b.s.length sc', .slice lA' b.l.length lc']] w
      fun e w' => e = .returned (.bool (Vl.same a b)) ∧ w.grownBy w' none

theorem sames_false {l m : List Vl} (h : l ≠ m) : Vl.sames l m = false := by
  cases e : Vl.sames l m
  · rfl
  · exact absurd ((Vl.sames_eq l m).1 e) h

set_option maxHeartbeats 8000000 in
set_option maxRecDepth 100000 in
theorem eqV_of {d : Nat} (hM : MatchC d) (l m : List Vl) (w : World) (B : Nat) (A : Option Addr) (c : Nat) (A' : Option Addr) (c' : Nat) (hd : ∀ x ∈ l, x.depth ≤ d) (ht : Vl.tots l ≤ 1100000) (ht' : Vl.tots m ≤ 1100000) (hB : B ≤ w.heap.size) (h : RdV w B A l) (h' : RdV w B A' m) :
    Calls Tryz.prog 66 #[.slice A l.length c, .slice A' m.length c', .func (.func 36) #[] #[]] w
      fun e w' => e = .returned (.bool (Vl.sames l m)) ∧ w.grownBy w' none := by
  have IH := hide hM
  have H := hide h
  have H' := hide h'
  have HD := hide hd
  have HT := hide (fun x (hx : x ∈ l) => Nat.le_trans (Vl.tot_mem hx) ht)
  have HT' := hide (fun x (hx : x ∈ m) => Nat.le_trans (Vl.tot_mem hx) ht')
  have l1 : l.length ≤ 1100000 := Nat.le_trans (Vl.length_le_tots l) ht
  have m1 : m.length ≤ 1100000 := Nat.le_trans (Vl.length_le_tots m) ht'
  have HBB := hide hB
  clear hM h h' hd ht ht' hB
  by_cases hne : l.length = m.length
  · have e1 := nat_bne_t hne
    have HNE := hide hne
    clear hne
    go_enter Tryz.func66, Tryz.ntmps66
    go_wp2_with fail
    go_loopw [17] (fun i wr => ∃ j : Nat, i = .int .i64 (j : Int) ∧ j ≤ l.length ∧ l.take j = m.take j ∧ w.grownBy wr none) (fun i _ => l.length - (intOf i).toNat)
    case atStart => exact ⟨0, rfl, by omega, rfl, gb_refl w none⟩
    case round =>
      obtain ⟨j, rfl, hj, he, hg⟩ := hrel
      have HE := hide he
      have HG1 := hide hg
      clear he hg
      by_cases hlt : j < l.length
      · have hlt1 : (j : Int) < (l.length : Int) := by omega
        have hltm : j < m.length := by have := HNE.out; omega
        have hlt2 : (j : Int) < (m.length : Int) := by omega
        obtain ⟨q, o, xA, xc, yA, yc, zA, zc, rfl, hqB, hc4, hvb⟩ := H.out.at_ hlt
        obtain ⟨q', o', xA', xc', yA', yc', zA', zc', rfl, hqB', hc4', hvb'⟩ := H'.out.at_ hltm
        obtain ⟨d0, d1, d2, d3⟩ := hc4.gb HG1.out
        have hga : wr.grownBy (wr.alloc (.cells #[.int .i64 l[j].t, .slice xA l[j].n.length xc, .slice yA l[j].s.length yc, .slice zA l[j].l.length zc] 26)) none := gb_alloc (gb_refl wr none) _
        have hgb := gb_alloc hga (.cells #[.int .i64 m[j].t, .slice xA' m[j].n.length xc', .slice yA' m[j].s.length yc', .slice zA' m[j].l.length zc'] 26)
        have hgw := gb_trans HG1.out hgb (.inl rfl)
        obtain ⟨f0, f1, f2, f3⟩ := hc4'.gb (gb_trans HG1.out hga (.inl rfl))
        have HCALL := hide (IH.out l[j] m[j] _ B xA xc yA yc zA zc xA' xc' yA' yc' zA' zc' (HD.out _ (List.getElem_mem hlt)) (HT.out _ (List.getElem_mem hlt)) (HT'.out _ (List.getElem_mem hltm)) (Nat.le_trans HBB.out hgw.size) (hvb.gb hgw HBB.out) (hvb'.gb hgw HBB.out))
        have HGW := hide hgw
        clear hc4 hc4' hvb hvb' hga hgb hgw
        by_cases hx : Vl.same l[j] m[j] = true
        · rw [hx] at HCALL
          have HX := hide ((Vl.same_eq _ _).1 hx)
          clear hx
          go_wp2_with (go_at_call 36; refine HCALL.out.mono ?_; rintro e w6 ⟨rfl, hg6⟩; have HG6 := hide hg6; clear hg6)
          go_roundw
          case rel => exact ⟨j + 1, by go_num, by omega, take_eq_step HE.out hlt hltm HX.out, gb_trans HGW.out HG6.out (.inl rfl)⟩
          case measure => simp [intOf]; omega
        · have hx := Bool.eq_false_iff.2 hx
          rw [hx] at HCALL
          have HS : Hid (Vl.sames l m = false) := hide (sames_false (by rintro rfl; rw [Vl.same_refl] at hx; cases hx))
          clear hx
          go_wp2_with (go_at_call 36; refine HCALL.out.mono ?_; rintro e w6 ⟨rfl, hg6⟩; have HG6 := hide hg6; clear hg6)
          go_ret
          exact ⟨ret_b HS.out.symm, gb_trans HGW.out HG6.out (.inl rfl)⟩
      · have hlt1 : ¬ (j : Int) < (l.length : Int) := by omega
        have HS : Hid (Vl.sames l m = true) := hide ((Vl.sames_eq _ _).2 (take_eq_all HE.out hlt HNE.out))
        go_wp2_with fail
        go_ret
        exact ⟨ret_b HS.out.symm, HG1.out⟩
  · have e1 := nat_bne_f hne
    have HS : Hid (Vl.sames l m = false) := hide (sames_false (by rintro rfl; exact hne rfl))
    clear hne
    go_enter Tryz.func66, Tryz.ntmps66
    go_wp2_with fail
    go_ret
    exact ⟨ret_b HS.out.symm, gb_refl w none⟩

theorem Vl.same_def (a b : Vl) : Vl.same a b = (decide (a.t = b.t) && decide (a.n = b.n) && decide (a.s = b.s) && Vl.sames a.l b.l) := by
  cases a; cases b
  rw [Bool.eq_iff_iff]
  simp only [Vl.same, Vl.t, Vl.n, Vl.s, Vl.l, Bool.and_eq_true]
  exact ⟨fun ⟨⟨⟨a, b⟩, c⟩, d⟩ => ⟨⟨⟨decide_eq_true (of_decide_eq_true a), decide_eq_true (of_decide_eq_true b)⟩, decide_eq_true (of_decide_eq_true c)⟩, d⟩, fun ⟨⟨⟨a, b⟩, c⟩, d⟩ => ⟨⟨⟨decide_eq_true (of_decide_eq_true a), decide_eq_true (of_decide_eq_true b)⟩, decide_eq_true (of_decide_eq_true c)⟩, d⟩⟩
theorem int_beq_t {a b : Int} (h : a = b) : (a == b) = true := beq_iff_eq.2 h
theorem int_beq_f {a b : Int} (h : ¬ a = b) : (a == b) = false := beq_eq_false_iff_ne.2 h

set_option maxHeartbeats 8000000 in
set_option maxRecDepth 100000 in
theorem vMatch_d (d : Nat) : MatchC d := by
  induction d with
  | zero => intro v; intros; rw [Vl.depth_def] at *; omega
  | succ d ih =>
    intro a b w B nA nc sA sc lA lc nA' nc' sA' sc' lA' lc' hd ht ht' hB hv hv'
    obtain ⟨l1, l2, l3, l4⟩ := Vl.lens a ht
    obtain ⟨m1, m2, m3, m4⟩ := Vl.lens b ht'
    obtain ⟨wa, hwa⟩ : ∃ wa, wa = (w.alloc (.cells #[.int .i64 a.t, .slice nA a.n.length nc, .slice sA a.s.length sc, .slice lA a.l.length lc] 26)).alloc (.cells #[.int .i64 b.t, .slice nA' b.n.length nc', .slice sA' b.s.length sc', .slice lA' b.l.length lc'] 26) := ⟨_, rfl⟩
    have hg : w.grownBy wa none := by rw [hwa]; exact gb_alloc (gb_alloc (gb_refl w none) _) _
    have hc := (C4.box w (.int .i64 a.t) (.slice nA a.n.length nc) (.slice sA a.s.length sc) (.slice lA a.l.length lc) 26).gb (gb_alloc (gb_refl _ none) (.cells #[.int .i64 b.t, .slice nA' b.n.length nc', .slice sA' b.s.length sc', .slice lA' b.l.length lc'] 26))
    have hc' := C4.box2 w (.cells #[.int .i64 a.t, .slice nA a.n.length nc, .slice sA a.s.length sc, .slice lA a.l.length lc] 26) (.int .i64 b.t) (.slice nA' b.n.length nc') (.slice sA' b.s.length sc') (.slice lA' b.l.length lc') 26
    rw [← hwa] at hc hc'
    have hbw := Nat.le_trans hB hg.size
    have hva := hv.gb hg hB
    have hva' := hv'.gb hg hB
    have EN := hide (fun w2 (k : wa.grownBy w2 none) => eqI_any nA nA' nc nc' B a.n b.n w2 (hva.gb k hbw).n (hva'.gb k hbw).n l1 m1)
    have ES := hide (fun w2 (k : wa.grownBy w2 none) => eqS_any sA sA' sc sc' B a.s b.s w2 (hva.gb k hbw).s (hva'.gb k hbw).s l2 m2)
    have EL := hide (fun w2 (k : wa.grownBy w2 none) => eqV_of ih a.l b.l w2 B lA lc lA' lc' (fun x hx => Vl.depth_part hd hx) l4 m4 (Nat.le_trans hbw k.size) (hva.gb k hbw).l (hva'.gb k hbw).l)
    have HG := hide hg
    have HWE := hide hwa
    have HSD := hide (Vl.same_def a b)
    have q0 : wa.cell? ⟨w.heap.size, 0, none⟩ = some (.int .i64 a.t) := hc.c0
    have q1 : wa.cell? ⟨w.heap.size, 1, none⟩ = some (.slice nA a.n.length nc) := hc.c1
    have q2 : wa.cell? ⟨w.heap.size, 2, none⟩ = some (.slice sA a.s.length sc) := hc.c2
    have q3 : wa.cell? ⟨w.heap.size, 3, none⟩ = some (.slice lA a.l.length lc) := hc.c3
    have k0 : wa.cell? ⟨w.heap.size + 1, 0, none⟩ = some (.int .i64 b.t) := hc'.c0
    have k1 : wa.cell? ⟨w.heap.size + 1, 1, none⟩ = some (.slice nA' b.n.length nc') := hc'.c1
    have k2 : wa.cell? ⟨w.heap.size + 1, 2, none⟩ = some (.slice sA' b.s.length sc') := hc'.c2
    have k3 : wa.cell? ⟨w.heap.size + 1, 3, none⟩ = some (.slice lA' b.l.length lc') := hc'.c3
    clear ih hd ht ht' hB hv hv' hg hwa hc hc' hva hva' hbw
    by_cases h1 : a.t = b.t
    · have e1 := int_beq_t h1
      rw [decide_eq_true h1] at HSD
      clear h1
      by_cases h2 : a.n = b.n
      · rw [decide_eq_true h2] at HSD EN
        clear h2
        by_cases h3 : a.s = b.s
        · rw [decide_eq_true h3] at HSD ES
          clear h3
          rw [show Vl.same a b = Vl.sames a.l b.l from HSD.out] at *
          clear HSD
          generalize Vl.sames a.l b.l = r at *
          go_enter Tryz.func36, Tryz.ntmps36
          go_wp2_with (first
            | (go_at_call 64; rw [← HWE.out]; refine (EN.out _ (gb_refl wa none)).mono ?_; rintro e w1 ⟨rfl, hg1⟩; have HG1 := hide hg1; clear hg1; have q2 := cell_gb q2 HG1.out; have k2 := cell_gb k2 HG1.out; have q3 := cell_gb q3 HG1.out; have k3 := cell_gb k3 HG1.out)
            | (go_at_call 65; refine (ES.out _ HG1.out).mono ?_; rintro e w2 ⟨rfl, hg2⟩; have HG2 := hide (gb_trans HG1.out hg2 (.inl rfl)); have q3 := cell_gb q3 hg2; have k3 := cell_gb k3 hg2; clear hg2)
            | (go_at_call 66; refine (EL.out _ HG2.out).mono ?_; rintro e w3 ⟨rfl, hg3⟩; have HG3 := hide (gb_trans HG2.out hg3 (.inl rfl)); clear hg3))
          go_ret
          exact ⟨ret_b (by simp), gb_trans HG.out HG3.out (.inl rfl)⟩
        · rw [decide_eq_false h3] at HSD ES
          clear h3
          go_enter Tryz.func36, Tryz.ntmps36
          go_wp2_with (first
            | (go_at_call 64; rw [← HWE.out]; refine (EN.out _ (gb_refl wa none)).mono ?_; rintro e w1 ⟨rfl, hg1⟩; have HG1 := hide hg1; clear hg1; have q2 := cell_gb q2 HG1.out; have k2 := cell_gb k2 HG1.out; have q3 := cell_gb q3 HG1.out; have k3 := cell_gb k3 HG1.out)
            | (go_at_call 65; refine (ES.out _ HG1.out).mono ?_; rintro e w2 ⟨rfl, hg2⟩; have HG2 := hide (gb_trans HG1.out hg2 (.inl rfl)); clear hg2))
          go_ret
          exact ⟨ret_b (by rw [HSD.out]; rfl), gb_trans HG.out HG2.out (.inl rfl)⟩
      · rw [decide_eq_false h2] at HSD EN
        clear h2
        go_enter Tryz.func36, Tryz.ntmps36
        go_wp2_with (go_at_call 64; rw [← HWE.out]; refine (EN.out _ (gb_refl wa none)).mono ?_; rintro e w1 ⟨rfl, hg1⟩; have HG1 := hide hg1; clear hg1)
        go_ret
        exact ⟨ret_b (by rw [HSD.out]; rfl), gb_trans HG.out HG1.out (.inl rfl)⟩
    · have e1 := int_beq_f h1
      rw [decide_eq_false h1] at HSD
      clear h1
      go_enter Tryz.func36, Tryz.ntmps36
      go_wp2_with fail
      go_ret
      exact ⟨ret_b (by rw [HSD.out]; rfl), by have := HG.out; rwa [HWE.out] at this⟩

theorem vMatch_any (a b : Vl) (w : World) (B : Nat) (nA : Option Addr) (nc : Nat) (sA : Option Addr) (sc : Nat) (lA : Option Addr) (lc : Nat) (nA' : Option Addr) (nc' : Nat) (sA' : Option Addr) (sc' : Nat) (lA' : Option Addr) (lc' : Nat) (ht : a.tot ≤ 1100000) (ht' : b.tot ≤ 1100000) (hB : B ≤ w.heap.size) (h : VB w B a nA nc sA sc lA lc) (h' : VB w B b nA' nc' sA' sc' lA' lc') :
    Calls Tryz.prog 36 #[.agg #[.int .i64 a.t, .slice nA a.n.length nc, .slice sA a.s.length sc, .slice lA a.l.length lc], .agg #[.int .i64 b.t, .slice nA' b.n.length nc', .slice sA' b.s.length sc', .slice lA' b.l.length lc']] w
      fun e w' => e = .returned (.bool (Vl.same a b)) ∧ w.grownBy w' none := vMatch_d a.depth a b w B nA nc sA sc lA lc nA' nc' sA' sc' lA' lc' (Nat.le_refl _) ht ht' hB h h'
theorem rMatch_any (a b : Vl) (w : World) (B : Nat) (nA : Option Addr) (nc : Nat) (sA : Option Addr) (sc : Nat) (lA : Option Addr) (lc : Nat) (nA' : Option Addr) (nc' : Nat) (sA' : Option Addr) (sc' : Nat) (lA' : Option Addr) (lc' : Nat) (ht : a.tot ≤ 1100000) (ht' : b.tot ≤ 1100000) (hB : B ≤ w.heap.size) (h : VB w B a nA nc sA sc lA lc) (h' : VB w B b nA' nc' sA' sc' lA' lc') :
    Calls Tryz.prog 19 #[.agg #[.int .i64 a.t, .slice nA a.n.length nc, .slice sA a.s.length sc, .slice lA a.l.length lc], .agg #[.int .i64 b.t, .slice nA' b.n.length nc', .slice sA' b.s.length sc', .slice lA' b.l.length lc']] w
      fun e w' => e = .returned (.bool (Vl.same a b)) ∧ w.grownBy w' none := rMatch_d a.depth a b w B nA nc sA sc lA lc nA' nc' sA' sc' lA' lc' (Nat.le_refl _) ht ht' hB h h'
end Go.Proofs.YtgepejnooghjbaaGreat

namespace Go.Proofs.YtgepejnooghjbaaGreat
open Go.RowKit
attribute [local go_sem ↓] Go.wp_at_zero Go.wp_at_succ

theorem vClone_any (v : Vl) (w : World) (B : Nat) (nA : Option Addr) (nc : Nat) (sA : Option Addr) (sc : Nat) (lA : Option Addr) (lc : Nat) (ht : v.tot ≤ 1100000) (hB : B ≤ w.heap.size) (h : VB w B v nA nc sA sc lA lc) :
    Calls Tryz.prog 89 #[.agg #[.int .i64 v.t, .slice nA v.n.length nc, .slice sA v.s.length sc, .slice lA v.l.length lc]] w (NewV v w) := vClone_d v.depth v w B nA nc sA sc lA lc (Nat.le_refl _) ht hB h
theorem cloneAll_any (l : List Vl) (w : World) (B : Nat) (A : Option Addr) (c : Nat) (ht : Vl.tots l ≤ 1100000) (hB : B ≤ w.heap.size) (h : RdV w B A l) :
    Calls Tryz.prog 135 #[.slice A l.length c] w (NewL l w) := cloneAll_of (vClone_d (Vl.depths l)) l w B A c (fun x hx => by
      have := Vl.depth_lt (v := .mk 0 [] [] l) (x := x) hx
      rw [Vl.depth_def (.mk 0 [] [] l)] at this
      simp only [Vl.l] at this
      omega) ht hB h

/-- Has a type numbers? -/
def hasN (t : Int) : Bool := t == 1 || t == 2 || t == 4 || t == 5 || t == -1 || t == -2 || t == -4 || t == -5
def hasS (t : Int) : Bool := t == 3 || t == -3
def atomT (t : Int) : Bool := decide (t < 0) && (hasN t || hasS t)

set_option maxHeartbeats 4000000 in
theorem hasN_any (t : Int) (w : World) : Calls Tryz.prog 86 #[.int .i64 t] w fun e w' => e = .returned (.bool (hasN t)) ∧ w = w' := by
  by_cases c : hasN t = true
  · rw [c]
    unfold hasN at c
    simp only [Bool.or_eq_true, beq_iff_eq] at c
    rcases c with (((((((rfl | rfl) | rfl) | rfl) | rfl) | rfl) | rfl) | rfl) <;>
    · go_enter Tryz.func86, Tryz.ntmps86
      go_wp2_with fail
      go_ret
      exact ⟨rfl, rfl⟩
  · have c' : hasN t = false := by simpa using c
    rw [c']
    unfold hasN at c'
    simp only [Bool.or_eq_false_iff] at c'
    obtain ⟨⟨⟨⟨⟨⟨⟨c1, c2⟩, c3⟩, c4⟩, c5⟩, c6⟩, c7⟩, c8⟩ := c'
    go_enter Tryz.func86, Tryz.ntmps86
    go_wp2_with fail
    go_ret
    exact ⟨rfl, rfl⟩
set_option maxHeartbeats 4000000 in
theorem hasS_any (t : Int) (w : World) : Calls Tryz.prog 87 #[.int .i64 t] w fun e w' => e = .returned (.bool (hasS t)) ∧ w = w' := by
  by_cases c1 : t = 3
  · subst c1
    go_enter Tryz.func87, Tryz.ntmps87
    go_wp2_with fail
    go_ret
    exact ⟨rfl, rfl⟩
  · have e1 := int_beq_f c1
    by_cases c2 : t = -3
    · subst c2
      go_enter Tryz.func87, Tryz.ntmps87
      go_wp2_with fail
      go_ret
      exact ⟨rfl, rfl⟩
    · have e2 := int_beq_f c2
      have HS := hide (show hasS t = false by unfold hasS; rw [e1, e2]; rfl)
      go_enter Tryz.func87, Tryz.ntmps87
      go_wp2_with fail
      go_ret
      exact ⟨ret_b HS.out.symm, rfl⟩
set_option maxHeartbeats 4000000 in
theorem isAtom_any (t : Int) (c1 c2 c3 : Value) (w : World) : Calls Tryz.prog 116 #[.agg #[.int .i64 t, c1, c2, c3]] w fun e w' => e = .returned (.bool (atomT t)) ∧ w.grownBy w' none := by
  obtain ⟨wa, hwa⟩ : ∃ wa, wa = w.alloc (.cells #[.int .i64 t, c1, c2, c3] 26) := ⟨_, rfl⟩
  have hc := (C4.box w (.int .i64 t) c1 c2 c3 26).c0
  rw [← hwa] at hc
  have HG := hide (show w.grownBy wa none by rw [hwa]; exact gb_alloc (gb_refl w none) _)
  have HWE := hide hwa
  clear hwa
  by_cases h0 : t < 0
  · have HN := hide (hasN_any t)
    have HS := hide (hasS_any t)
    have HA : Hid (atomT t = (hasN t || hasS t)) := hide (by unfold atomT; simp [h0])
    rw [HA.out]
    clear HA
    cases hn : hasN t
    · rw [hn] at HN
      clear hn
      generalize hasS t = b at *
      go_enter Tryz.func116, Tryz.ntmps116
      go_wp2_with (first
        | (go_at_call 86; refine (HN.out _).mono ?_; rintro e w1 ⟨rfl, rfl⟩)
        | (go_at_call 87; refine (HS.out _).mono ?_; rintro e w1 ⟨rfl, rfl⟩))
      go_ret
      exact ⟨ret_b (by simp), by have := HG.out; rwa [HWE.out] at this⟩
    · rw [hn] at HN
      clear hn
      go_enter Tryz.func116, Tryz.ntmps116
      go_wp2_with (first
        | (go_at_call 86; refine (HN.out _).mono ?_; rintro e w1 ⟨rfl, rfl⟩))
      go_ret
      exact ⟨ret_b (by simp), by have := HG.out; rwa [HWE.out] at this⟩
  · have HA : Hid (atomT t = false) := hide (by unfold atomT; simp [h0])
    have h1 : 0 ≤ t := by omega
    go_enter Tryz.func116, Tryz.ntmps116
    go_wp2_with fail
    go_ret
    exact ⟨ret_b HA.out.symm, by have := HG.out; rwa [HWE.out] at this⟩

set_option maxHeartbeats 4000000 in
set_option maxRecDepth 100000 in
theorem count_d (d : Nat) : ∀ (v : Vl) (w : World) (B : Nat) (nA : Option Addr) (nc : Nat) (sA : Option Addr) (sc : Nat) (lA : Option Addr) (lc : Nat), v.depth ≤ d → v.tot ≤ 1100000 → B ≤ w.heap.size → VB w B v nA nc sA sc lA lc →
    Calls Tryz.prog 35 #[.agg #[.int .i64 v.t, .slice nA v.n.length nc, .slice sA v.s.length sc, .slice lA v.l.length lc]] w fun e w' => e = .returned (.int .i64 (v.count : Nat)) ∧ w.grownBy w' none := by
  induction d with
  | zero => intro v; intros; rw [Vl.depth_def] at *; omega
  | succ d ih =>
    intro v w B nA nc sA sc lA lc hd ht hB hv
    obtain ⟨l1, l2, l3, l4⟩ := Vl.lens v ht
    obtain ⟨wa, hwa⟩ : ∃ wa, wa = w.alloc (.cells #[.int .i64 v.t, .slice nA v.n.length nc, .slice sA v.s.length sc, .slice lA v.l.length lc] 26) := ⟨_, rfl⟩
    have hg : w.grownBy wa none := by rw [hwa]; exact gb_alloc (gb_refl w none) _
    have hc := C4.box w (.int .i64 v.t) (.slice nA v.n.length nc) (.slice sA v.s.length sc) (.slice lA v.l.length lc) 26
    rw [← hwa] at hc
    have IH := hide ih
    have HD := hide hd
    have HT := hide ht
    have HV := hide (hv.gb hg hB)
    have HBW := hide (Nat.le_trans hB hg.size)
    have HC := hide (Vl.count_def v)
    have HG := hide hg
    have HWE := hide hwa
    clear ih hd ht hB hv hg hwa hc
    have fin : w.grownBy (w.alloc (.cells #[.int .i64 v.t, .slice nA v.n.length nc, .slice sA v.s.length sc, .slice lA v.l.length lc] 26)) none := gb_alloc (gb_refl w none) _
    have FIN := hide fin
    clear fin
    by_cases h1 : v.t = 1 ∨ v.t = 2 ∨ v.t = 4 ∨ v.t = 5
    · rw [if_pos h1] at HC
      rw [HC.out]
      generalize v.t = t at *
      clear HV
      rcases h1 with rfl | rfl | rfl | rfl <;>
      · go_enter Tryz.func35, Tryz.ntmps35
        go_wp2_with fail
        go_ret
        exact ⟨rfl, FIN.out⟩
    rw [if_neg h1] at HC
    simp only [not_or] at h1
    obtain ⟨h11, h12, h13, h14⟩ := h1
    have e11 := int_beq_f h11
    have e12 := int_beq_f h12
    have e13 := int_beq_f h13
    have e14 := int_beq_f h14
    clear h11 h12 h13 h14
    by_cases h2 : v.t = 3
    · have e2 := int_beq_t h2
      rw [if_pos h2] at HC
      rw [HC.out]
      clear h2
      go_enter Tryz.func35, Tryz.ntmps35
      go_wp2_with fail
      go_ret
      exact ⟨rfl, FIN.out⟩
    have e2 := int_beq_f h2
    rw [if_neg h2] at HC
    clear h2
    by_cases h3 : v.t = 0
    · have e3 := int_beq_t h3
      rw [if_pos h3] at HC
      rw [HC.out]
      clear h3
      go_enter Tryz.func35, Tryz.ntmps35
      go_wp2_with fail
      go_ret
      exact ⟨rfl, FIN.out⟩
    have e3 := int_beq_f h3
    rw [if_neg h3] at HC
    clear h3
    by_cases h4 : v.t = 98 ∨ v.t = 99
    · rw [if_pos h4] at HC
      by_cases h0 : 0 < v.l.length
      · rw [Vl.countH_at h0] at HC
        obtain ⟨b, o, xA, xc, yA, yc, zA, zc, hlA, hbB, hc4, hvb⟩ := HV.out.l.at_ h0
        subst hlA
        obtain ⟨d0, d1, d2, d3⟩ := hc4
        have d0' : wa.cell? ⟨b, o, none⟩ = some (.int .i64 v.l[0].t) := by simpa using d0
        have d1' : wa.cell? ⟨b, o + 1, none⟩ = some (.slice xA v.l[0].n.length xc) := by simpa using d1
        have d2' : wa.cell? ⟨b, o + 2, none⟩ = some (.slice yA v.l[0].s.length yc) := by simpa using d2
        have d3' : wa.cell? ⟨b, o + 3, none⟩ = some (.slice zA v.l[0].l.length zc) := by simpa using d3
        rw [HWE.out] at d0' d1' d2' d3'
        have HCALL := hide (IH.out v.l[0] wa B xA xc yA yc zA zc (Vl.depth_part HD.out (List.getElem_mem h0)) (Vl.tot_part HT.out (List.getElem_mem h0)) HBW.out hvb)
        have h01 : (0 : Int) < (v.l.length : Int) := by omega
        have HE := hide (congrArg (fun n : Nat => Ending.returned (Value.int .i64 (n : Int))) HC.out)
        clear hvb d0 d1 d2 d3 HC
        rcases h4 with h4 | h4
        · have e4 := int_beq_t h4
          clear h4
          go_enter Tryz.func35, Tryz.ntmps35
          go_wp2_with (go_at_call 35; rw [← HWE.out]; refine HCALL.out.mono ?_; rintro e w1 ⟨rfl, hg1⟩; have HG1 := hide hg1; clear hg1)
          go_ret
          exact ⟨HE.out.symm, gb_trans HG.out HG1.out (.inl rfl)⟩
        · have e4 : (v.t == 98) = false := by rw [h4]; rfl
          have e5 := int_beq_t h4
          clear h4
          go_enter Tryz.func35, Tryz.ntmps35
          go_wp2_with (go_at_call 35; rw [← HWE.out]; refine HCALL.out.mono ?_; rintro e w1 ⟨rfl, hg1⟩; have HG1 := hide hg1; clear hg1)
          go_ret
          exact ⟨HE.out.symm, gb_trans HG.out HG1.out (.inl rfl)⟩
      · have hl0 : v.l.length = 0 := by omega
        have HE : Hid (v.count = 1) := hide (by rw [HC.out, List.eq_nil_of_length_eq_zero hl0]; rfl)
        have HL0 := hide hl0
        have h00 : ¬ (0 : Int) < (v.l.length : Int) := by omega
        clear hl0 h0 HC
        rw [HE.out]
        rcases h4 with h4 | h4
        · have e4 := int_beq_t h4
          clear h4
          go_enter Tryz.func35, Tryz.ntmps35
          go_wp2_with fail
          go_ret
          exact ⟨rfl, FIN.out⟩
        · have e4 : (v.t == 98) = false := by rw [h4]; rfl
          have e5 := int_beq_t h4
          clear h4
          go_enter Tryz.func35, Tryz.ntmps35
          go_wp2_with fail
          go_ret
          exact ⟨rfl, FIN.out⟩
    · rw [if_neg h4] at HC
      rw [HC.out]
      simp only [not_or] at h4
      have e4 := int_beq_f h4.1
      have e5 := int_beq_f h4.2
      clear h4
      go_enter Tryz.func35, Tryz.ntmps35
      go_wp2_with fail
      go_ret
      exact ⟨rfl, FIN.out⟩
theorem count_any (v : Vl) (w : World) (B : Nat) (nA : Option Addr) (nc : Nat) (sA : Option Addr) (sc : Nat) (lA : Option Addr) (lc : Nat) (ht : v.tot ≤ 1100000) (hB : B ≤ w.heap.size) (h : VB w B v nA nc sA sc lA lc) :
    Calls Tryz.prog 35 #[.agg #[.int .i64 v.t, .slice nA v.n.length nc, .slice sA v.s.length sc, .slice lA v.l.length lc]] w fun e w' => e = .returned (.int .i64 (v.count : Nat)) ∧ w.grownBy w' none := count_d v.depth v w B nA nc sA sc lA lc (Nat.le_refl _) ht hB h
end Go.Proofs.YtgepejnooghjbaaGreat

namespace Go.Proofs.YtgepejnooghjbaaGreat
open Go.RowKit
attribute [local go_sem ↓] Go.wp_at_zero Go.wp_at_succ

/-- Are these atoms of one type, one at least? -/
def unif : List Vl → Bool
  | [] => false
  | a :: r => atomT a.t && r.all fun x => x.t == a.t
theorem unif_cons {l : List Vl} (h : 0 < l.length) : unif l = (atomT l[0].t && l.all fun x => x.t == l[0].t) := by
  cases l with
  | nil => simp at h
  | cons a r => simp [unif]
theorem RdV.first {w : World} {B : Nat} {A : Option Addr} {l : List Vl} (h : RdV w B A l) (h0 : 0 < l.length) : ∃ b o nA nc sA sc lA lc, A = some ⟨b, o, none⟩ ∧ b < B ∧
    C4 w b o (.int .i64 l[0].t) (.slice nA l[0].n.length nc) (.slice sA l[0].s.length sc) (.slice lA l[0].l.length lc) ∧ VB w B l[0] nA nc sA sc lA lc := by
  obtain ⟨b, o, nA, nc, sA, sc, lA, lc, h1, h2, h3, h4⟩ := h.at_ h0
  refine ⟨b, o, nA, nc, sA, sc, lA, lc, h1, h2, ?_, h4⟩
  simpa using h3

set_option maxHeartbeats 8000000 in
set_option maxRecDepth 100000 in
theorem unif_any (l : List Vl) (w : World) (B : Nat) (A : Option Addr) (c : Nat) (ht : Vl.tots l ≤ 1100000) (hB : B ≤ w.heap.size) (h : RdV w B A l) :
    Calls Tryz.prog 143 #[.slice A l.length c] w fun e w' => e = .returned (.bool (unif l)) ∧ w.grownBy w' none := by
  by_cases h0 : l = []
  · subst h0
    go_enter Tryz.func143, Tryz.ntmps143
    go_wp2_with fail
    go_ret
    exact ⟨rfl, gb_refl w none⟩
  have hl0 : 0 < l.length := List.length_pos_iff.2 h0
  have H := hide h
  have l1 : l.length ≤ 1100000 := Nat.le_trans (Vl.length_le_tots l) ht
  have HBB := hide hB
  have HU := hide (unif_cons hl0)
  have e0 : ((l.length : Int) == 0) = false := beq_eq_false_iff_ne.2 (by omega)
  have hl01 : (0 : Int) < (l.length : Int) := by omega
  obtain ⟨b, o, nA, nc, sA, sc, lA, lc, rfl, hbB, hc4, hvb⟩ := h.first hl0
  have HC4 := hide hc4
  have HIA := hide (isAtom_any l[0].t (.slice nA l[0].n.length nc) (.slice sA l[0].s.length sc) (.slice lA l[0].l.length lc))
  obtain ⟨d0, d1, d2, d3⟩ := hc4
  clear h ht hB h0 hvb
  cases hat : atomT l[0].t
  · rw [hat] at HIA HU
    rw [HU.out]
    clear hat
    go_enter Tryz.func143, Tryz.ntmps143
    go_wp2_with (go_at_call 116; refine (HIA.out _).mono ?_; rintro e w1 ⟨rfl, hg1⟩; have HG1 := hide hg1; clear hg1)
    go_ret
    exact ⟨by simp, HG1.out⟩
  · rw [hat, Bool.true_and] at HU
    rw [hat] at HIA
    clear hat
    go_enter Tryz.func143, Tryz.ntmps143
    go_wp2_with (go_at_call 116; refine (HIA.out _).mono ?_; rintro e w1 ⟨rfl, hg1⟩; have HG1 := hide hg1; clear hg1)
    go_loopw [17] (fun i wr => ∃ j : Nat, i = .int .i64 (j : Int) ∧ j ≤ l.length ∧ (∀ (i : Nat) (h : i < l.length), i < j → l[i].t = l[0].t) ∧ w.grownBy wr none) (fun i _ => l.length - (intOf i).toNat)
    case atStart => exact ⟨0, rfl, by omega, fun i _ h => by omega, HG1.out⟩
    case round =>
      obtain ⟨j, rfl, hj, he, hg⟩ := hrel
      have HE := hide he
      have HG := hide hg
      clear he hg
      by_cases hlt : j < l.length
      · have hlt1 : (j : Int) < (l.length : Int) := by omega
        obtain ⟨q, p, xA, xc, yA, yc, zA, zc, hA, hqB, hc4', hvb'⟩ := H.out.at_ hlt
        simp only [Option.some.injEq, Addr.mk.injEq, and_true] at hA
        obtain ⟨rfl, rfl⟩ := hA
        obtain ⟨f0, f1, f2, f3⟩ := hc4'.gb HG.out
        have hga : wr.grownBy (wr.alloc (.cells #[.int .i64 l[j].t, .slice xA l[j].n.length xc, .slice yA l[j].s.length yc, .slice zA l[j].l.length zc] 26)) none := gb_alloc (gb_refl wr none) _
        have g0 := cell_gb d0 (gb_trans HG.out hga (.inl rfl))
        have HGA := hide (gb_trans HG.out hga (.inl rfl))
        clear hc4' hvb' hga
        by_cases hx : l[j].t = l[0].t
        · have hx1 := int_bne_t hx
          have HX := hide hx
          clear hx
          go_wp2_with fail
          go_quiet (fail)
          go_wp2_with fail
          go_roundw
          case rel =>
            refine ⟨j + 1, by go_num, by omega, fun i h hi => ?_, gb_drewN HGA.out _⟩
            by_cases hij : i = j
            · subst hij; exact HX.out
            · exact HE.out i h (by omega)
          case measure => simp [intOf]; omega
        · have hx1 := int_bne_f hx
          have HS : Hid (unif l = false) := hide (by
            rw [HU.out, Bool.eq_false_iff]
            intro hall
            rw [List.all_eq_true] at hall
            exact hx (beq_iff_eq.1 (hall _ (List.getElem_mem hlt))))
          clear hx
          go_wp2_with fail
          go_quiet (fail)
          go_wp2_with fail
          go_ret
          exact ⟨ret_b HS.out.symm, gb_drewN HGA.out _⟩
      · have hlt1 : ¬ (j : Int) < (l.length : Int) := by omega
        have HS : Hid (unif l = true) := hide (by
          rw [HU.out, List.all_eq_true]
          intro x hx
          obtain ⟨i, hi, rfl⟩ := List.getElem_of_mem hx
          exact beq_iff_eq.2 (HE.out i hi (by omega)))
        go_wp2_with fail
        go_ret
        exact ⟨ret_b HS.out.symm, HG.out⟩
end Go.Proofs.YtgepejnooghjbaaGreat

namespace Go.Proofs.YtgepejnooghjbaaGreat
open Go.RowKit
attribute [local go_sem ↓] Go.wp_at_zero Go.wp_at_succ

/-- The list of values, or the vector of atoms. -/
def ofV (l : List Vl) : Vl := if unif l = true then .mk (-(match l with | [] => 0 | a :: _ => a.t)) (l.flatMap Vl.n) (l.flatMap Vl.s) [] else .mk 0 [] [] l
theorem ofV_list {l : List Vl} (h : unif l = false) : ofV l = .mk 0 [] [] l := by unfold ofV; rw [h]; rfl
theorem ofV_vec {l : List Vl} (h : unif l = true) (h0 : 0 < l.length) : ofV l = .mk (-l[0].t) (l.flatMap Vl.n) (l.flatMap Vl.s) [] := by
  cases l with
  | nil => simp at h0
  | cons a r => unfold ofV; rw [h]; rfl
theorem flatN_take (l : List Vl) (j : Nat) (h : j < l.length) : (l.take (j + 1)).flatMap Vl.n = (l.take j).flatMap Vl.n ++ l[j].n := by
  rw [List.take_succ_eq_append_getElem h, List.flatMap_append]; simp
theorem flatS_take (l : List Vl) (j : Nat) (h : j < l.length) : (l.take (j + 1)).flatMap Vl.s = (l.take j).flatMap Vl.s ++ l[j].s := by
  rw [List.take_succ_eq_append_getElem h, List.flatMap_append]; simp
theorem flatN_le (l : List Vl) : (l.flatMap Vl.n).length ≤ Vl.tots l := by
  induction l with
  | nil => simp [Vl.tots]
  | cons a r ih => simp only [List.flatMap_cons, List.length_append, Vl.tots]; have := Vl.tot_def a; omega
theorem flatS_le (l : List Vl) : (l.flatMap Vl.s).length ≤ Vl.tots l := by
  induction l with
  | nil => simp [Vl.tots]
  | cons a r ih => simp only [List.flatMap_cons, List.length_append, Vl.tots]; have := Vl.tot_def a; omega
theorem i64s_app (a b : List Int) : i64s (a ++ b) = i64s a ++ i64s b := by simp [i64s]
theorem strs_app (a b : List ByteArray) : strs (a ++ b) = strs a ++ strs b := by simp [strs]

/-- Where a vector is being built: block r is the value, the rows lie behind it. -/
def Grow (w1 : World) (l : List Vl) (t : Int) (j : Nat) (wr : World) : Prop := ∃ N nc S sc, wr.heap[w1.heap.size]? = some (.cells #[.int .i64 t, .slice N ((l.take j).flatMap Vl.n).length nc, .slice S ((l.take j).flatMap Vl.s).length sc, .slice none 0 0] 26 (0, 0)) ∧
  wr.ownsRow (w1.heap.size + 1) 2 1 (.slice N ((l.take j).flatMap Vl.n).length nc) ((l.take j).flatMap Vl.n).length (i64s ((l.take j).flatMap Vl.n)) ∧
  wr.ownsRow (w1.heap.size + 1) 9 1 (.slice S ((l.take j).flatMap Vl.s).length sc) ((l.take j).flatMap Vl.s).length (strs ((l.take j).flatMap Vl.s)) ∧ w1.grownBy wr none

theorem NewV.of_put {v : Vl} {w wa w1 : World} {A1 A2 A3 : Option Addr} {c1 c2 c3 : Nat} {xs : List (List Value)} {f1 f2 f g : List Nat} (hsz : wa.heap.size = w.heap.size + 1) (hg : w.grownBy wa none) (hg1 : wa.grownBy w1 none)
    (hc1 : v.n.length ≤ c1) (o1 : Own w1 f1 A1 (i64s v.n)) (hc2 : v.s.length ≤ c2) (o2 : Own w1 f2 A2 (strs v.s)) (hc3 : v.l.length ≤ c3) (o3 : Own w1 f A3 (List.flatten xs)) (ha : VOwAll w1 v.l xs g)
    (hn : New wa w1 (f1 ++ (f2 ++ (f ++ g)))) :
    NewV v w (.returned (.agg #[.int .i64 v.t, .slice A1 v.n.length c1, .slice A2 v.s.length c2, .slice A3 v.l.length c3])) (put4 w1 w.heap.size 0 (.int .i64 v.t) (.slice A1 v.n.length c1) (.slice A2 v.s.length c2) (.slice A3 v.l.length c3)) := by
  have s1 := hg1.size
  have hk : ∀ b, b < w1.heap.size → b ≠ w.heap.size → (put4 w1 w.heap.size 0 (.int .i64 v.t) (.slice A1 v.n.length c1) (.slice A2 v.s.length c2) (.slice A3 v.l.length c3)).heap[b]? = w1.heap[b]? := fun b hb hne => (put4_gb w1 w.heap.size 0 _ _ _ _).block b hb (by intro e; injection e with e; exact hne e)
  have hs4 := put4_size w1 w.heap.size 0 (.int .i64 v.t) (.slice A1 v.n.length c1) (.slice A2 v.s.length c2) (.slice A3 v.l.length c3)
  have hb : ∀ b ∈ f1 ++ (f2 ++ (f ++ g)), (put4 w1 w.heap.size 0 (.int .i64 v.t) (.slice A1 v.n.length c1) (.slice A2 v.s.length c2) (.slice A3 v.l.length c3)).heap[b]? = w1.heap[b]? := fun b hb => by
    have := hn.2 b hb
    exact hk b (by omega) (by omega)
  refine ⟨A1, c1, A2, c2, A3, c3, f1 ++ (f2 ++ (f ++ g)), rfl, VOw.mk_ ⟨hc1, hc2, hc3⟩ (o1.keep fun b h => hb b (by simp [h])) (o2.keep fun b h => hb b (by simp [h])) (o3.keep fun b h => hb b (by simp [h])) (VOwAll.keep _ _ _ ha fun b h => hb b (by simp [h])), ?_, ?_⟩
  · exact (hn.less (by omega)).more (by omega)
  · exact gb_trans (gb_trans hg hg1 (.inl rfl)) (put4_gb w1 w.heap.size 0 _ _ _ _) (.inr (.inr ⟨_, rfl, Nat.le_refl _⟩))

set_option maxHeartbeats 8000000 in
set_option maxRecDepth 100000 in
theorem of_list (l : List Vl) (w : World) (B : Nat) (A : Option Addr) (c : Nat) (hu : unif l = false) (ht : Vl.tots l ≤ 1100000) (hB : B ≤ w.heap.size) (h : RdV w B A l) :
    Calls Tryz.prog 98 #[.slice A l.length c] w (NewV (ofV l) w) := by
  rw [ofV_list hu]
  have U := hide (fun w2 (k : w.grownBy w2 none) => unif_any l w2 B A c ht (Nat.le_trans hB k.size) (h.gb k hB))
  have C := hide (fun w2 (k : w.grownBy w2 none) => cloneAll_any l w2 B A c ht (Nat.le_trans hB k.size) (h.gb k hB))
  obtain ⟨wa, hwa⟩ : ∃ wa, wa = w.alloc (.cells #[.int .i64 0, .slice none 0 0, .slice none 0 0, .slice none 0 0] 26) := ⟨_, rfl⟩
  have hg : w.grownBy wa none := by rw [hwa]; exact gb_alloc (gb_refl w none) _
  have hr : wa.heap[w.heap.size]? = some (.cells #[.int .i64 0, .slice none 0 0, .slice none 0 0, .slice none 0 0] 26 (0, 0)) := by rw [hwa]; exact heap_alloc_new w _
  have HSZ := hide (show wa.heap.size = w.heap.size + 1 by rw [hwa]; simp)
  have HG := hide hg
  have HR := hide hr
  have HWE := hide hwa
  rw [hu] at U
  clear hu ht hB h hg hr hwa
  go_enter Tryz.func98, Tryz.ntmps98
  go_wp2_with fail
  rw [← HWE.out]
  refine (U.out _ HG.out).mono ?_
  rintro e w1 ⟨rfl, hg1⟩
  have HG1 := hide hg1
  clear hg1
  go_wp2_with fail
  refine (C.out _ (gb_trans HG.out HG1.out (.inl rfl))).mono ?_
  rintro e w2 ⟨A2, c2, xs, f, g, rfl, hc2, ho2, ha2, hn2, hg2⟩
  have hr2 := (hg2.block _ (by have := blk_lt HR.out; have := HG1.out.size; omega) (by simp)).trans ((HG1.out.block _ (blk_lt HR.out) (by simp)).trans HR.out)
  have p0 : w2.cell? ⟨w.heap.size, 0, none⟩ = some (.int .i64 0) := by rw [blk_cell hr2]; rfl
  have p1 : w2.cell? ⟨w.heap.size, 1, none⟩ = some (.slice none 0 0) := by rw [blk_cell hr2]; rfl
  have p2 : w2.cell? ⟨w.heap.size, 2, none⟩ = some (.slice none 0 0) := by rw [blk_cell hr2]; rfl
  have p3 : w2.cell? ⟨w.heap.size, 3, none⟩ = some (.slice none 0 0) := by rw [blk_cell hr2]; rfl
  have z0 := blk_frozen hr2 0
  have z1 := blk_frozen hr2 1
  have z2 := blk_frozen hr2 2
  have z3 := blk_frozen hr2 3
  have HC2 := hide hc2
  have HO2 := hide ho2
  have HA2 := hide ha2
  have HN2 := hide hn2
  have HG2 := hide hg2
  clear hc2 ho2 ha2 hn2 hg2 hr2
  go_wp2_with fail
  refine bodyPost_ret (v := .agg #[.int .i64 0, .slice none 0 0, .slice none 0 0, .slice A2 l.length c2]) (by simp [results, Tryz.results98, go_sem, p0, p1, p2, p3]) rfl ?_
  exact NewV.of_put (v := .mk 0 [] [] l) (f1 := []) (f2 := []) (f := f) (g := g) HSZ.out HG.out (gb_trans HG1.out HG2.out (.inl rfl)) (Nat.le_refl _) (.inl ⟨rfl, rfl⟩) (Nat.le_refl _) (.inl ⟨rfl, rfl⟩) HC2.out HO2.out HA2.out (HN2.out.less HG1.out.size)

theorem atomT_bd {t : Int} (h : atomT t = true) : -5 ≤ t ∧ t < 0 := by
  unfold atomT hasN hasS at h
  simp only [Bool.and_eq_true, Bool.or_eq_true, decide_eq_true_eq, beq_iff_eq] at h
  omega
theorem Own.blk {w : World} {f : List Nat} {A : Option Addr} {xs : List Value} (h : Own w f A xs) (b : Nat) (hb : b ∈ f) {n c : Nat} : (Value.slice A n c).ownBlock = some b := by
  rcases h with ⟨_, rfl⟩ | ⟨b', t, cur, rfl, rfl, _, _, _⟩
  · cases hb
  · obtain rfl := List.mem_singleton.1 hb
    rfl
theorem rows_apart {w : World} {base base' n n' size size' : Nat} {e e' : TypeId} {v v' : Value} {xs xs' : List Value} (h : w.ownsRow base e size v n xs) (h' : w.ownsRow base' e' size' v' n' xs') (hne : e ≠ e') : v.ownBlock = none ∨ v.ownBlock ≠ v'.ownBlock := by
  rcases h'.2 with ⟨rfl, _⟩ | ⟨g', cap', cur', rfl, _, hh', _⟩
  · rcases h.2 with ⟨rfl, _⟩ | ⟨g, cap, cur, rfl, _⟩
    · exact .inl rfl
    · exact .inr (by simp [Value.ownBlock])
  · exact .inr (own_ne h hh' hne)

set_option maxHeartbeats 8000000 in
set_option maxRecDepth 100000 in
theorem of_vec0 (l : List Vl) (n : List Int) (s : List ByteArray) (HNE : Hid (l.flatMap Vl.n = n)) (HSE : Hid (l.flatMap Vl.s = s)) (w : World) (B : Nat) (A : Option Addr) (c : Nat) (hu : unif l = true) (hl0 : 0 < l.length) (ht : Vl.tots l ≤ 1100000) (hB : B ≤ w.heap.size) (h : RdV w B A l) :
    Calls Tryz.prog 98 #[.slice A l.length c] w (NewV (.mk (-l[0].t) n s []) w) := by
  have hat : atomT l[0].t = true := by
    rw [unif_cons hl0, Bool.and_eq_true] at hu
    exact hu.1
  obtain ⟨hb1, hb2⟩ := atomT_bd hat
  have U := hide (fun w2 (k : w.grownBy w2 none) => unif_any l w2 B A c ht (Nat.le_trans hB k.size) (h.gb k hB))
  obtain ⟨wa, hwa⟩ : ∃ wa, wa = w.alloc (.cells #[.int .i64 0, .slice none 0 0, .slice none 0 0, .slice none 0 0] 26) := ⟨_, rfl⟩
  have hg : w.grownBy wa none := by rw [hwa]; exact gb_alloc (gb_refl w none) _
  have hr : wa.heap[w.heap.size]? = some (.cells #[.int .i64 0, .slice none 0 0, .slice none 0 0, .slice none 0 0] 26 (0, 0)) := by rw [hwa]; exact heap_alloc_new w _
  have HSZ := hide (show wa.heap.size = w.heap.size + 1 by rw [hwa]; simp)
  have HG := hide hg
  have HR := hide hr
  have HWE := hide hwa
  have l1 : l.length ≤ 1100000 := Nat.le_trans (Vl.length_le_tots l) ht
  have HT := hide ht
  have HFN : Hid (n.length ≤ 1100000) := hide (by have := Nat.le_trans (flatN_le l) ht; rwa [HNE.out] at this)
  have HFS : Hid (s.length ≤ 1100000) := hide (by have := Nat.le_trans (flatS_le l) ht; rwa [HSE.out] at this)
  have H := hide h
  have HBB := hide hB
  obtain ⟨b, o, xA0, xc0, yA0, yc0, zA0, zc0, rfl, hbB, hc40, _⟩ := h.first hl0
  have HC40 := hide hc40.c0
  rw [hu] at U
  obtain ⟨i1, hi1, hiz, his, hib⟩ := info_parts Tryz.info64
  have HI1 := hide hi1
  have HIZ := hide hiz
  have HIS := hide his
  have HIB := hide hib
  obtain ⟨i2, hi2, hiz2, his2, hib2⟩ := info_parts Tryz.infoS
  have HJ1 := hide hi2
  have HJZ := hide hiz2
  have HJS := hide his2
  have HJB := hide hib2
  have hl01 : (0 : Int) < (l.length : Int) := by omega
  have hneg : IntKind.i64.wrap (-l[0].t) = -l[0].t := by rw [IntKind.wrap_i64]; omega
  clear hu ht hB h hg hr hwa hat hc40 hi1 hiz his hib hi2 hiz2 his2 hib2
  go_enter Tryz.func98, Tryz.ntmps98
  go_wp2_with fail
  rw [← HWE.out]
  refine (U.out _ HG.out).mono ?_
  rintro e w1 ⟨rfl, hg1⟩
  have d0 := cell_gb HC40.out (gb_trans HG.out hg1 (.inl rfl))
  have HG1 := hide hg1
  clear hg1
  go_wp2_with fail
  go_loopw [20] (fun i wr => ∃ j : Nat, i = .int .i64 (j : Int) ∧ j ≤ l.length ∧ Grow w1 l (-l[0].t) j wr) (fun i _ => l.length - (intOf i).toNat)
  case atStart =>
    refine ⟨0, rfl, Nat.zero_le _, none, 0, none, 0, ?_, ⟨rfl, .inl ⟨rfl, rfl⟩⟩, ⟨rfl, .inl ⟨rfl, rfl⟩⟩, gb_alloc (gb_refl w1 none) _⟩
    exact heap_alloc_new w1 _
  case round =>
    obtain ⟨j, rfl, hj, hfill⟩ := hrel
    by_cases hlt : j < l.length
    · have hlt1 : (j : Int) < (l.length : Int) := by omega
      obtain ⟨N, nc, S, sc, hh, hoN, hoS, hg⟩ := hfill
      obtain ⟨q, p, xA, xc, yA, yc, zA, zc, hA, hqB, hc4', hvb'⟩ := H.out.at_ hlt
      simp only [Option.some.injEq, Addr.mk.injEq, and_true] at hA
      obtain ⟨rfl, rfl⟩ := hA
      have hgw : w.grownBy wr none := gb_trans HG.out (gb_trans HG1.out hg (.inl rfl)) (.inl rfl)
      obtain ⟨f0, f1, f2, f3⟩ := hc4'.gb hgw
      have hvr := hvb'.gb hgw HBB.out
      have hgb : wr.grownBy (wr.alloc (.cells #[.int .i64 l[j].t, .slice xA l[j].n.length xc, .slice yA l[j].s.length yc, .slice zA l[j].l.length zc] 26)) none := gb_alloc (gb_refl wr none) _
      have HFN1 := hide (flatN_take l j hlt)
      have HFS1 := hide (flatS_take l j hlt)
      have hbnd1 : ((l.take j).flatMap Vl.n).length + l[j].n.length ≤ 1100000 := by
        have h1 := flatN_le (l.take (j + 1))
        have h2 := Vl.tots_take_le l (j + 1)
        rw [HFN1.out, List.length_append] at h1
        have := HT.out
        omega
      have hbnd2 : ((l.take j).flatMap Vl.s).length + l[j].s.length ≤ 1100000 := by
        have h1 := flatS_le (l.take (j + 1))
        have h2 := Vl.tots_take_le l (j + 1)
        rw [HFS1.out, List.length_append] at h1
        have := HT.out
        omega
      clear HNE HSE HFN HFS
      generalize (l.take j).flatMap Vl.n = n at *
      generalize (l.take j).flatMap Vl.s = s at *
      have hBR : B ≤ w1.heap.size := by have := HBB.out; have := HG.out.size; have := HG1.out.size; omega
      have hBr : B ≤ wr.heap.size := by have := hg.size; omega
      have hRb := (hgb.block _ (blk_lt hh) (by simp)).trans hh
      have hXb := heap_alloc_new wr (.cells #[.int .i64 l[j].t, .slice xA l[j].n.length xc, .slice yA l[j].s.length yc, .slice zA l[j].l.length zc] 26)
      have r1 : (wr.alloc (.cells #[.int .i64 l[j].t, .slice xA l[j].n.length xc, .slice yA l[j].s.length yc, .slice zA l[j].l.length zc] 26)).cell? ⟨w1.heap.size, 1, none⟩ = some (.slice N n.length nc) := by rw [blk_cell hRb]; rfl
      have HON := hide (hoN.alloc (.cells #[.int .i64 l[j].t, .slice xA l[j].n.length xc, .slice yA l[j].s.length yc, .slice zA l[j].l.length zc] 26))
      have HOS := hide (hoS.alloc (.cells #[.int .i64 l[j].t, .slice xA l[j].n.length xc, .slice yA l[j].s.length yc, .slice zA l[j].l.length zc] 26))
      have HRN := hide (hvr.n.grown hgb hBr (by simp))
      have HRS := hide (hvr.s.grown hgb hBr (by simp))
      have HRB := hide hRb
      have HXB := hide hXb
      have HGR := hide hg
      have HGB := hide hgb
      have HBR := hide hBR
      have HLT := hide (blk_lt hh)
      have HL1 : Hid ((i64s l[j].n).length = l[j].n.length * 1) := hide (by simp [i64s])
      have HOC := hide (i64s_one l[j].n)
      have HM1 : Hid (n.length + l[j].n.length ≤ maxLen) := hide (by unfold maxLen; omega)
      have HMB : Hid ((n.length + l[j].n.length) * 8 ≤ 140737488355328) := hide (by omega)
      have HBS : Hid (w1.heap.size + 1 ≤ (wr.alloc (.cells #[.int .i64 l[j].t, .slice xA l[j].n.length xc, .slice yA l[j].s.length yc, .slice zA l[j].l.length zc] 26)).heap.size) := hide (by have := blk_lt hh; simp; omega)
      have HL2 : Hid ((strs l[j].s).length = l[j].s.length * 1) := hide (by simp [strs])
      have HOC2 := hide (strs_one l[j].s)
      have HM2 : Hid (s.length + l[j].s.length ≤ maxLen) := hide (by unfold maxLen; omega)
      have HMB2 : Hid ((s.length + l[j].s.length) * 16 ≤ 140737488355328) := hide (by omega)
      clear hh hoN hoS hg hc4' hvb' hgw hvr hgb hRb hXb hBR hBr
      go_wp2_with (first
        | (at_builtin; refine wpList_append_rd _ rfl (.tmp 25) (.tmp 27) 22 rfl (w1.heap.size + 1) 2 i1 (.int .i64 0) 1 8 Tryz.underlying22 HI1.out HIZ.out HIS.out HIB.out rfl (Nat.succ_pos 0) (.slice N n.length nc) n.length (i64s n) rfl HON.out B xA l[j].n.length xc (i64s l[j].n) rfl HL1.out HRN.out HOC.out HM1.out HMB.out HBS.out ?_
           intro v5 w5 ho5 hg5 hb5
           rw [← i64s_app] at ho5
           obtain ⟨N5, nc5, rfl, hnc5⟩ := own_slice ho5
           have hR5 := (hg5.block _ (blk_lt HRB.out) (fun e => own_ne HON.out HRB.out (by decide) e.symm)).trans HRB.out
           have hX5 := (hg5.block _ (blk_lt HXB.out) (fun e => own_ne HON.out HXB.out (by decide) e.symm)).trans HXB.out
           have p1 : w5.cell? ⟨w1.heap.size, 1, none⟩ = some (.slice N n.length nc) := by rw [blk_cell hR5]; rfl
           have z1 := blk_frozen hR5 1
           have hgs : w5.grownBy (w5.setCell ⟨w1.heap.size, 1, none⟩ (.slice N5 (n.length + l[j].n.length) nc5)) (some w1.heap.size) := gb_setCell (gb_refl _ _) (.inl rfl) _
           have hRs : (w5.setCell ⟨w1.heap.size, 1, none⟩ (.slice N5 (n.length + l[j].n.length) nc5)).heap[w1.heap.size]? = some (.cells #[.int .i64 (-l[0].t), .slice N5 (n.length + l[j].n.length) nc5, .slice S s.length sc, .slice none 0 0] 26 (0, 0)) := blk_set hR5 1 _
           have hXs := (hgs.block _ (blk_lt hX5) (by intro e; injection e with e; have := HLT.out; omega)).trans hX5
           have q2 : (w5.setCell ⟨w1.heap.size, 1, none⟩ (.slice N5 (n.length + l[j].n.length) nc5)).cell? ⟨w1.heap.size, 2, none⟩ = some (.slice S s.length sc) := by rw [blk_cell hRs]; rfl
           have x2 : (w5.setCell ⟨w1.heap.size, 1, none⟩ (.slice N5 (n.length + l[j].n.length) nc5)).cell? ⟨wr.heap.size, 2, none⟩ = some (.slice yA l[j].s.length yc) := by rw [blk_cell hXs]; rfl
           have hoN5 := ho5.kept hgs (.inr (own_ne ho5 hR5 (by decide)))
           have hoS5a := HOS.out.kept hg5 (rows_apart HOS.out HON.out (by decide))
           have hoS5 := hoS5a.kept hgs (.inr (own_ne hoS5a hR5 (by decide)))
           have hlN := HON.out.lt
           have HRS5 := hide ((HRS.out.grown hg5 (by have := HBS.out; have := HBR.out; omega) (fun g e => by have := (hlN g e).1; have := HBR.out; omega)).grown hgs (by have := HBS.out; have := HBR.out; have := hg5.size; omega) (fun g e => by injection e with e; have := HBR.out; omega))
           have HON5 := hide hoN5
           have HOS5 := hide hoS5
           have HRs5 := hide hRs
           have HBS5 : Hid (w1.heap.size + 1 ≤ (w5.setCell ⟨w1.heap.size, 1, none⟩ (.slice N5 (n.length + l[j].n.length) nc5)).heap.size) := hide (by have := HBS.out; have := hg5.size; have := hgs.size; omega)
           have HG5 := hide (show w1.grownBy (w5.setCell ⟨w1.heap.size, 1, none⟩ (.slice N5 (n.length + l[j].n.length) nc5)) none from gb_trans (gb_trans (gb_trans HGR.out HGB.out (.inl rfl)) hg5 (match hq : (Value.slice N n.length nc).ownBlock with | none => .inr (.inl rfl) | some g => .inr (.inr ⟨g, rfl, by have := (hlN g hq).1; omega⟩))) hgs (.inr (.inr ⟨_, rfl, Nat.le_refl _⟩)))
           have HNC5 := hide hnc5
           clear ho5 hg5 hb5 hR5 hX5 hgs hRs hXs hoN5 hoS5a hoS5 hlN hnc5)
        | (at_builtin; refine wpList_append_rd _ rfl (.tmp 31) (.tmp 33) 23 rfl (w1.heap.size + 1) 9 i2 (.string ⟨#[]⟩) 1 16 Tryz.underlying23 HJ1.out HJZ.out HJS.out HJB.out rfl (Nat.succ_pos 0) (.slice S s.length sc) s.length (strs s) rfl HOS5.out B yA l[j].s.length yc (strs l[j].s) rfl HL2.out HRS5.out HOC2.out HM2.out HMB2.out HBS5.out ?_
           intro v6 w6 ho6 hg6 hb6
           rw [← strs_app] at ho6
           obtain ⟨S6, sc6, rfl, hsc6⟩ := own_slice ho6
           have hR6 := (hg6.block _ (blk_lt HRs5.out) (fun e => own_ne HOS5.out HRs5.out (by decide) e.symm)).trans HRs5.out
           have p2 : w6.cell? ⟨w1.heap.size, 2, none⟩ = some (.slice S s.length sc) := by rw [blk_cell hR6]; rfl
           have z2 := blk_frozen hR6 2
           have hgt : w6.grownBy (w6.setCell ⟨w1.heap.size, 2, none⟩ (.slice S6 (s.length + l[j].s.length) sc6)) (some w1.heap.size) := gb_setCell (gb_refl _ _) (.inl rfl) _
           have hRt : (w6.setCell ⟨w1.heap.size, 2, none⟩ (.slice S6 (s.length + l[j].s.length) sc6)).heap[w1.heap.size]? = some (.cells #[.int .i64 (-l[0].t), .slice N5 (n.length + l[j].n.length) nc5, .slice S6 (s.length + l[j].s.length) sc6, .slice none 0 0] 26 (0, 0)) := blk_set hR6 2 _
           have hlS := HOS5.out.lt
           have hoN6a := HON5.out.kept hg6 (rows_apart HON5.out HOS5.out (by decide))
           have HON6 := hide (hoN6a.kept hgt (.inr (own_ne hoN6a hR6 (by decide))))
           have HOS6 := hide (ho6.kept hgt (.inr (own_ne ho6 hR6 (by decide))))
           have HR6 := hide hRt
           have HG6 := hide (show w1.grownBy (w6.setCell ⟨w1.heap.size, 2, none⟩ (.slice S6 (s.length + l[j].s.length) sc6)) none from gb_trans (gb_trans HG5.out hg6 (match hq : (Value.slice S s.length sc).ownBlock with | none => .inr (.inl rfl) | some g => .inr (.inr ⟨g, rfl, by have := (hlS g hq).1; omega⟩))) hgt (.inr (.inr ⟨_, rfl, Nat.le_refl _⟩)))
           clear ho6 hg6 hb6 hR6 hgt hRt hoN6a hlS hsc6))
      go_roundw
      case rel =>
        refine ⟨j + 1, by go_num, by omega, ?_⟩
        unfold Grow
        rw [HFN1.out, HFS1.out, List.length_append, List.length_append]
        exact ⟨N5, nc5, S6, sc6, HR6.out, HON6.out, HOS6.out, HG6.out⟩
      case measure => simp [intOf]; omega
    · have hlt1 : ¬ (j : Int) < (l.length : Int) := by omega
      obtain rfl : j = l.length := by omega
      obtain ⟨N, nc, S, sc, hh, hoN, hoS, hg⟩ := hfill
      rw [List.take_length, HNE.out] at hoN
      rw [List.take_length, HSE.out] at hoS
      rw [List.take_length, HNE.out, HSE.out] at hh
      have hfn := HFN.out
      have hfs := HFS.out
      obtain ⟨_, _, hvN, hcN⟩ := own_slice hoN
      obtain ⟨_, _, hvS, hcS⟩ := own_slice hoS
      injection hvN with hvN1 hvN2 hvN3
      injection hvS with hvS1 hvS2 hvS3
      clear hvN1 hvN2 hvS1 hvS2
      subst hvN3
      subst hvS3
      obtain ⟨f1, o1, b1⟩ := Own.of_row hoN
      obtain ⟨f2, o2, b2⟩ := Own.of_row hoS
      have hr := (hg.block _ (by have := blk_lt HR.out; have := HG1.out.size; omega) (by simp)).trans ((HG1.out.block _ (blk_lt HR.out) (by simp)).trans HR.out)
      have hn : New wa wr (f1 ++ (f2 ++ ([] ++ []))) := by
        have hs := HG1.out.size
        refine ⟨?_, fun b hb => ?_⟩
        · simp only [List.append_nil]
          refine List.nodup_append.2 ⟨?_, ?_, fun x hx y hy e => ?_⟩
          · match f1, o1.len with
            | [], _ => simp
            | [x], _ => simp
          · match f2, o2.len with
            | [], _ => simp
            | [x], _ => simp
          · subst e
            have k1 := o1.blk x hx (n := n.length) (c := nc)
            have k2 := o2.blk x hy (n := s.length) (c := sc)
            rcases rows_apart hoN hoS (by decide) with h | h
            · rw [h] at k1; cases k1
            · rw [k1, k2] at h; exact h rfl
        · simp only [List.append_nil] at hb
          rcases List.mem_append.1 hb with hb | hb
          · have := b1 b hb; omega
          · have := b2 b hb; omega
      have HN := hide hn
      have HO1 := hide o1
      have HO2 := hide o2
      have HCN := hide hcN
      have HCS := hide hcS
      have HGR := hide hg
      clear hn o1 o2 b1 b2 hcN hcS hg hoN hoS
      have p0 : wr.cell? ⟨w.heap.size, 0, none⟩ = some (.int .i64 0) := by rw [blk_cell hr]; rfl
      have p1 : wr.cell? ⟨w.heap.size, 1, none⟩ = some (.slice none 0 0) := by rw [blk_cell hr]; rfl
      have p2 : wr.cell? ⟨w.heap.size, 2, none⟩ = some (.slice none 0 0) := by rw [blk_cell hr]; rfl
      have p3 : wr.cell? ⟨w.heap.size, 3, none⟩ = some (.slice none 0 0) := by rw [blk_cell hr]; rfl
      have z0 := blk_frozen hr 0
      have z1 := blk_frozen hr 1
      have z2 := blk_frozen hr 2
      have z3 := blk_frozen hr 3
      have q0 : wr.cell? ⟨w1.heap.size, 0, none⟩ = some (.int .i64 (-l[0].t)) := by rw [blk_cell hh]; rfl
      have q1 : wr.cell? ⟨w1.heap.size, 1, none⟩ = some (.slice N n.length nc) := by rw [blk_cell hh]; rfl
      have q2 : wr.cell? ⟨w1.heap.size, 2, none⟩ = some (.slice S s.length sc) := by rw [blk_cell hh]; rfl
      have q3 : wr.cell? ⟨w1.heap.size, 3, none⟩ = some (.slice none 0 0) := by rw [blk_cell hh]; rfl
      clear hr hh
      go_wp2_with fail
      refine bodyPost_ret (v := .agg #[.int .i64 (-l[0].t), .slice N n.length nc, .slice S s.length sc, .slice none 0 0]) (by simp [results, Tryz.results98, go_sem, p0, p1, p2, p3]) rfl ?_
      exact NewV.of_put (v := .mk (-l[0].t) n s []) (f1 := f1) (f2 := f2) (f := []) (g := []) (xs := []) HSZ.out HG.out (gb_trans HG1.out HGR.out (.inl rfl)) HCN.out HO1.out HCS.out HO2.out (Nat.le_refl _) (.inl ⟨rfl, rfl⟩) ⟨rfl, rfl⟩ HN.out

theorem of_vec (l : List Vl) (w : World) (B : Nat) (A : Option Addr) (c : Nat) (hu : unif l = true) (ht : Vl.tots l ≤ 1100000) (hB : B ≤ w.heap.size) (h : RdV w B A l) :
    Calls Tryz.prog 98 #[.slice A l.length c] w (NewV (ofV l) w) := by
  have hl0 : 0 < l.length := by
    rcases l with _ | ⟨a, r⟩
    · cases hu
    · simp
  rw [ofV_vec hu hl0]
  exact of_vec0 l _ _ (hide rfl) (hide rfl) w B A c hu hl0 ht hB h
theorem of_any (l : List Vl) (w : World) (B : Nat) (A : Option Addr) (c : Nat) (ht : Vl.tots l ≤ 1100000) (hB : B ≤ w.heap.size) (h : RdV w B A l) :
    Calls Tryz.prog 98 #[.slice A l.length c] w (NewV (ofV l) w) := by
  cases hu : unif l
  · exact of_list l w B A c hu ht hB h
  · exact of_vec l w B A c hu ht hB h
end Go.Proofs.YtgepejnooghjbaaGreat
