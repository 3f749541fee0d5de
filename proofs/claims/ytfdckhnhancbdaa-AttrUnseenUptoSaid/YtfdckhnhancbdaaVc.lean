/-
  The document's Match.
-/
import Derived.Test.YtfdckhnhancbdaaVb
import Derived.Deep.RegionHeld3
import Derived.Deep.DrawnRows
namespace Go.Proofs.Ytfdckhnhancbdaa
open Go.RowKit
attribute [local go_sem ↓] Go.wp_at_zero Go.wp_at_succ

theorem Vl.same_false {a b : Vl} (h : a ≠ b) : Vl.same a b = false := Vl.same_ne h
theorem Vl.ne_t {a b : Vl} (h : ¬ a.t = b.t) : Vl.same a b = false := Vl.same_ne (by rintro rfl; exact h rfl)
theorem Vl.ne_n {a b : Vl} (h : ¬ a.n.length = b.n.length) : Vl.same a b = false := Vl.same_ne (by rintro rfl; exact h rfl)
theorem Vl.ne_s {a b : Vl} (h : ¬ a.s.length = b.s.length) : Vl.same a b = false := Vl.same_ne (by rintro rfl; exact h rfl)
theorem Vl.ne_l {a b : Vl} (h : ¬ a.l.length = b.l.length) : Vl.same a b = false := Vl.same_ne (by rintro rfl; exact h rfl)
theorem Vl.lens (v : Vl) (h : v.tot ≤ 1100000) : v.n.length ≤ 1100000 ∧ v.s.length ≤ 1100000 ∧ v.l.length ≤ 1100000 ∧ Vl.tots v.l ≤ 1100000 := by
  rw [Vl.tot_def] at h
  have := Vl.length_le_tots v.l
  omega
theorem Vl.tot_part {v : Vl} (h : v.tot ≤ 1100000) {x : Vl} (hx : x ∈ v.l) : x.tot ≤ 1100000 := by
  have h1 := (Vl.lens v h).2.2.2
  have h2 := Vl.tot_mem hx
  omega
theorem Vl.depth_part {v : Vl} {d : Nat} (h : v.depth ≤ d + 1) {x : Vl} (hx : x ∈ v.l) : x.depth ≤ d := by
  have := Vl.depth_lt hx
  omega
theorem int_bne_t {a b : Int} (h : a = b) : (a != b) = false := by rw [h]; simp
theorem int_bne_f {a b : Int} (h : ¬ a = b) : (a != b) = true := by rw [bne_iff_ne]; exact h
theorem nat_bne_t {a b : Nat} (h : a = b) : ((a : Int) != (b : Int)) = false := by rw [h]; simp
theorem nat_bne_f {a b : Nat} (h : ¬ a = b) : ((a : Int) != (b : Int)) = true := by rw [bne_iff_ne]; omega

set_option maxHeartbeats 8000000 in
set_option maxRecDepth 100000 in
theorem rMatch_d (d : Nat) : ∀ (a b : Vl) (w : World) (B : Nat) (nA : Option Addr) (nc : Nat) (sA : Option Addr) (sc : Nat) (lA : Option Addr) (lc : Nat) (nA' : Option Addr) (nc' : Nat) (sA' : Option Addr) (sc' : Nat) (lA' : Option Addr) (lc' : Nat), a.depth ≤ d → a.tot ≤ 1100000 → b.tot ≤ 1100000 → B ≤ w.heap.size → VB w B a nA nc sA sc lA lc → VB w B b nA' nc' sA' sc' lA' lc' →
    Calls Try.prog 22 #[.agg #[.int .i64 a.t, .slice nA a.n.length nc, .slice sA a.s.length sc, .slice lA a.l.length lc], .agg #[.int .i64 b.t, .slice nA' b.n.length nc', .slice sA' b.s.length sc', .slice lA' b.l.length lc']] w
      fun e w' => e = .returned (.bool (Vl.same a b)) ∧ w.grownBy w' none := by
  induction d with
  | zero => intro v; intros; rw [Vl.depth_def] at *; omega
  | succ d ih =>
    intro a b w B nA nc sA sc lA lc nA' nc' sA' sc' lA' lc' hd ht ht' hB hv hv'
    have IH := hide ih
    have HD := hide hd
    have HT := hide ht
    have HT' := hide ht'
    have HBB := hide hB
    obtain ⟨l1, l2, l3, _⟩ := Vl.lens a ht
    obtain ⟨m1, m2, m3, _⟩ := Vl.lens b ht'
    obtain ⟨wa, hwa⟩ : ∃ wa, wa = (w.alloc (.cells #[.int .i64 a.t, .slice nA a.n.length nc, .slice sA a.s.length sc, .slice lA a.l.length lc] 26)).alloc (.cells #[.int .i64 b.t, .slice nA' b.n.length nc', .slice sA' b.s.length sc', .slice lA' b.l.length lc'] 26) := ⟨_, rfl⟩
    have hg : w.grownBy wa none := by rw [hwa]; exact gb_alloc (gb_alloc (gb_refl w none) _) _
    have hc := (C4.box w (.int .i64 a.t) (.slice nA a.n.length nc) (.slice sA a.s.length sc) (.slice lA a.l.length lc) 26).gb (gb_alloc (gb_refl _ none) (.cells #[.int .i64 b.t, .slice nA' b.n.length nc', .slice sA' b.s.length sc', .slice lA' b.l.length lc'] 26))
    have hc' := C4.box2 w (.cells #[.int .i64 a.t, .slice nA a.n.length nc, .slice sA a.s.length sc, .slice lA a.l.length lc] 26) (.int .i64 b.t) (.slice nA' b.n.length nc') (.slice sA' b.s.length sc') (.slice lA' b.l.length lc') 26
    rw [← hwa] at hc hc'
    have HV := hide (hv.gb hg hB)
    have HV' := hide (hv'.gb hg hB)
    have HBW := hide (Nat.le_trans hB hg.size)
    have HG := hide hg
    have HWE := hide hwa
    have HC := hide hc
    have HC' := hide hc'
    clear ih hd ht ht' hB hv hv' hg hwa hc hc'
    by_cases h1 : a.t = b.t
    · have e1 := int_bne_t h1
      have H1 := hide h1
      clear h1
      by_cases h2 : a.n.length = b.n.length
      · have e2 := nat_bne_t h2
        have H2 := hide h2
        clear h2
        by_cases h3 : a.s.length = b.s.length
        · have e3 := nat_bne_t h3
          have H3 := hide h3
          clear h3
          by_cases h4 : a.l.length = b.l.length
          · have e4 := nat_bne_t h4
            have H4 := hide h4
            clear h4
            go_enter Try.func22, Try.ntmps22
            go_wp2_with fail
            rw [← HWE.out]
            have g1 : wa.cell? ⟨w.heap.size, 1, none⟩ = some (.slice nA a.n.length nc) := HC.out.c1
            have g2 : wa.cell? ⟨w.heap.size, 2, none⟩ = some (.slice sA a.s.length sc) := HC.out.c2
            have g3 : wa.cell? ⟨w.heap.size, 3, none⟩ = some (.slice lA a.l.length lc) := HC.out.c3
            have k1 : wa.cell? ⟨w.heap.size + 1, 1, none⟩ = some (.slice nA' b.n.length nc') := HC'.out.c1
            have k2 : wa.cell? ⟨w.heap.size + 1, 2, none⟩ = some (.slice sA' b.s.length sc') := HC'.out.c2
            have k3 : wa.cell? ⟨w.heap.size + 1, 3, none⟩ = some (.slice lA' b.l.length lc') := HC'.out.c3
            go_loopw [5] (fun i wr => ∃ j : Nat, i = .int .i64 (j : Int) ∧ j ≤ a.n.length ∧ a.n.take j = b.n.take j ∧ wa.grownBy wr none) (fun i _ => a.n.length - (intOf i).toNat)
            case atStart => exact ⟨0, rfl, by omega, rfl, gb_refl wa none⟩
            case round =>
              obtain ⟨j, rfl, hj, he, hg⟩ := hrel
              have HE := hide he
              have HG1 := hide hg
              clear he hg
              have g1 := cell_gb g1 HG1.out
              have k1 := cell_gb k1 HG1.out
              by_cases hlt : j < a.n.length
              · have hlt1 : (j : Int) < (a.n.length : Int) := by omega
                have hltm : j < b.n.length := by have := H2.out; omega
                have hlt2 : (j : Int) < (b.n.length : Int) := by omega
                obtain ⟨p, rfl, _, ca⟩ := HV.out.n.i64 hlt
                obtain ⟨p', rfl, _, ca'⟩ := HV'.out.n.i64 hltm
                have ca := cell_gb ca HG1.out
                have ca' := cell_gb ca' HG1.out
                by_cases hx : a.n[j] = b.n[j]
                · have hx2 := int_bne_t hx
                  have HX := hide hx
                  clear hx
                  go_wp2_with fail
                  go_quiet (fail)
                  go_wp2_with fail
                  go_roundw
                  case rel => exact ⟨j + 1, by go_num, by omega, take_eq_step HE.out hlt hltm HX.out, by first | exact gb_drewN HG1.out _ | exact HG1.out⟩
                  case measure => simp [intOf]; omega
                · have hx2 := int_bne_f hx
                  have HS : Hid (Vl.same a b = false) := hide (Vl.same_ne (by rintro rfl; exact hx rfl))
                  clear hx
                  go_wp2_with fail
                  go_quiet (fail)
                  go_wp2_with fail
                  go_ret
                  exact ⟨ret_b HS.out.symm, gb_drewN (gb_trans HG.out HG1.out (.inl rfl)) _⟩
              · have hlt1 : ¬ (j : Int) < (a.n.length : Int) := by omega
                have HN := hide (take_eq_all HE.out hlt H2.out)
                go_wp2_with fail
                obtain ⟨wo, rfl⟩ : ∃ wo : World, wo = wr := ⟨_, rfl⟩
                clear g1 k1
                go_loopw [6] (fun i wr => ∃ j : Nat, i = .int .i64 (j : Int) ∧ j ≤ a.s.length ∧ a.s.take j = b.s.take j ∧ wa.grownBy wr none) (fun i _ => a.s.length - (intOf i).toNat)
                case atStart => exact ⟨0, rfl, by omega, rfl, HG1.out⟩
                case round =>
                  obtain ⟨j, rfl, hj, he, hg⟩ := hrel
                  have HE := hide he
                  have HG1 := hide hg
                  clear he hg
                  have g2 := cell_gb g2 HG1.out
                  have k2 := cell_gb k2 HG1.out
                  by_cases hlt : j < a.s.length
                  · have hlt1 : (j : Int) < (a.s.length : Int) := by omega
                    have hltm : j < b.s.length := by have := H3.out; omega
                    have hlt2 : (j : Int) < (b.s.length : Int) := by omega
                    obtain ⟨p, rfl, _, ca⟩ := HV.out.s.str hlt
                    obtain ⟨p', rfl, _, ca'⟩ := HV'.out.s.str hltm
                    have ca := cell_gb ca HG1.out
                    have ca' := cell_gb ca' HG1.out
                    by_cases hx : a.s[j] = b.s[j]
                    · have hx2 := ba_eq hx
                      have HX := hide hx
                      clear hx
                      go_wp2_with fail
                      go_quiet (fail)
                      go_wp2_with fail
                      go_roundw
                      case rel => exact ⟨j + 1, by go_num, by omega, take_eq_step HE.out hlt hltm HX.out, by first | exact gb_drewN HG1.out _ | exact HG1.out⟩
                      case measure => simp [intOf]; omega
                    · have hx2 := ba_ne hx
                      have HS : Hid (Vl.same a b = false) := hide (Vl.same_ne (by rintro rfl; exact hx rfl))
                      clear hx
                      go_wp2_with fail
                      go_quiet (fail)
                      go_wp2_with fail
                      go_ret
                      exact ⟨ret_b HS.out.symm, gb_drewN (gb_trans HG.out HG1.out (.inl rfl)) _⟩
                  · have hlt1 : ¬ (j : Int) < (a.s.length : Int) := by omega
                    have HN2 := hide (take_eq_all HE.out hlt H3.out)
                    go_wp2_with fail
                    obtain ⟨wo, rfl⟩ : ∃ wo : World, wo = wr := ⟨_, rfl⟩
                    clear g2 k2
                    go_loopw [7] (fun i wr => ∃ j : Nat, i = .int .i64 (j : Int) ∧ j ≤ a.l.length ∧ a.l.take j = b.l.take j ∧ wa.grownBy wr none) (fun i _ => a.l.length - (intOf i).toNat)
                    case atStart => exact ⟨0, rfl, by omega, rfl, HG1.out⟩
                    case round =>
                      obtain ⟨j, rfl, hj, he, hg⟩ := hrel
                      have HE := hide he
                      have HG1 := hide hg
                      clear he hg
                      have g3 := cell_gb g3 HG1.out
                      have k3 := cell_gb k3 HG1.out
                      by_cases hlt : j < a.l.length
                      · have hlt1 : (j : Int) < (a.l.length : Int) := by omega
                        have hltm : j < b.l.length := by have := H4.out; omega
                        have hlt2 : (j : Int) < (b.l.length : Int) := by omega
                        obtain ⟨q, o, xA, xc, yA, yc, zA, zc, rfl, hqB, hc4, hvb⟩ := HV.out.l.at_ hlt
                        obtain ⟨q', o', xA', xc', yA', yc', zA', zc', rfl, hqB', hc4', hvb'⟩ := HV'.out.l.at_ hltm
                        obtain ⟨d0, d1, d2, d3⟩ := hc4.gb HG1.out
                        obtain ⟨f0, f1, f2, f3⟩ := hc4'.gb HG1.out
                        have HCALL := hide (IH.out a.l[j] b.l[j] wr.drew B xA xc yA yc zA zc xA' xc' yA' yc' zA' zc' (Vl.depth_part HD.out (List.getElem_mem hlt)) (Vl.tot_part HT.out (List.getElem_mem hlt)) (Vl.tot_part HT'.out (List.getElem_mem hltm)) (Nat.le_trans HBW.out HG1.out.size) ((hvb.gb HG1.out HBW.out).gb (gb_drew (gb_refl wr none)) (Nat.le_trans HBW.out HG1.out.size)) ((hvb'.gb HG1.out HBW.out).gb (gb_drew (gb_refl wr none)) (Nat.le_trans HBW.out HG1.out.size)))
                        clear hc4 hc4' hvb hvb'
                        have HGW := hide HG1.out
                        by_cases hx : Vl.same a.l[j] b.l[j] = true
                        · rw [hx] at HCALL
                          have HX := hide ((Vl.same_eq _ _).1 hx)
                          clear hx
                          go_wp2_with fail
                          go_region_held3 (fun w' => w'.cell? ⟨w.heap.size, 3, none⟩ = some (.slice (some ⟨q, o, none⟩) a.l.length lc) ∧ w'.cell? ⟨w.heap.size + 1, 3, none⟩ = some (.slice (some ⟨q', o', none⟩) b.l.length lc') ∧ w'.cell? ⟨q, o + j * 4, none⟩ = some (.int .i64 a.l[j].t) ∧ w'.cell? ⟨q, o + j * 4 + 1, none⟩ = some (.slice xA a.l[j].n.length xc) ∧ w'.cell? ⟨q, o + j * 4 + 2, none⟩ = some (.slice yA a.l[j].s.length yc) ∧ w'.cell? ⟨q, o + j * 4 + 3, none⟩ = some (.slice zA a.l[j].l.length zc) ∧ w'.cell? ⟨q', o' + j * 4, none⟩ = some (.int .i64 b.l[j].t) ∧ w'.cell? ⟨q', o' + j * 4 + 1, none⟩ = some (.slice xA' b.l[j].n.length xc') ∧ w'.cell? ⟨q', o' + j * 4 + 2, none⟩ = some (.slice yA' b.l[j].s.length yc') ∧ w'.cell? ⟨q', o' + j * 4 + 3, none⟩ = some (.slice zA' b.l[j].l.length zc')) (first | exact ⟨g3, k3, d0, d1, d2, d3, f0, f1, f2, f3⟩ | exact ⟨cell_gb g3 HG6.out, cell_gb k3 HG6.out, cell_gb d0 HG6.out, cell_gb d1 HG6.out, cell_gb d2 HG6.out, cell_gb d3 HG6.out, cell_gb f0 HG6.out, cell_gb f1 HG6.out, cell_gb f2 HG6.out, cell_gb f3 HG6.out⟩ | go_keep) ((go_simp; go_at_call 22; refine HCALL.out.mono ?_; rintro e w6 ⟨rfl, hg6⟩; have HG6 := hide (show wr.grownBy w6 none from gb_trans (gb_drew (gb_refl wr none)) hg6 (.inl rfl)); clear hg6))
                          go_wp2_with fail
                          go_roundw
                          case rel => exact ⟨j + 1, by go_num, by omega, take_eq_step HE.out hlt hltm HX.out, gb_trans HG1.out HG6.out (.inl rfl)⟩
                          case measure => simp [intOf]; omega
                        · have hx := Bool.eq_false_iff.2 hx
                          rw [hx] at HCALL
                          have HS : Hid (Vl.same a b = false) := hide (Vl.same_ne (by rintro rfl; rw [Vl.same_refl] at hx; cases hx))
                          clear hx
                          go_wp2_with fail
                          go_region_held3 (fun w' => w'.cell? ⟨w.heap.size, 3, none⟩ = some (.slice (some ⟨q, o, none⟩) a.l.length lc) ∧ w'.cell? ⟨w.heap.size + 1, 3, none⟩ = some (.slice (some ⟨q', o', none⟩) b.l.length lc') ∧ w'.cell? ⟨q, o + j * 4, none⟩ = some (.int .i64 a.l[j].t) ∧ w'.cell? ⟨q, o + j * 4 + 1, none⟩ = some (.slice xA a.l[j].n.length xc) ∧ w'.cell? ⟨q, o + j * 4 + 2, none⟩ = some (.slice yA a.l[j].s.length yc) ∧ w'.cell? ⟨q, o + j * 4 + 3, none⟩ = some (.slice zA a.l[j].l.length zc) ∧ w'.cell? ⟨q', o' + j * 4, none⟩ = some (.int .i64 b.l[j].t) ∧ w'.cell? ⟨q', o' + j * 4 + 1, none⟩ = some (.slice xA' b.l[j].n.length xc') ∧ w'.cell? ⟨q', o' + j * 4 + 2, none⟩ = some (.slice yA' b.l[j].s.length yc') ∧ w'.cell? ⟨q', o' + j * 4 + 3, none⟩ = some (.slice zA' b.l[j].l.length zc')) (first | exact ⟨g3, k3, d0, d1, d2, d3, f0, f1, f2, f3⟩ | exact ⟨cell_gb g3 HG6.out, cell_gb k3 HG6.out, cell_gb d0 HG6.out, cell_gb d1 HG6.out, cell_gb d2 HG6.out, cell_gb d3 HG6.out, cell_gb f0 HG6.out, cell_gb f1 HG6.out, cell_gb f2 HG6.out, cell_gb f3 HG6.out⟩ | go_keep) ((go_simp; go_at_call 22; refine HCALL.out.mono ?_; rintro e w6 ⟨rfl, hg6⟩; have HG6 := hide (show wr.grownBy w6 none from gb_trans (gb_drew (gb_refl wr none)) hg6 (.inl rfl)); clear hg6))
                          go_wp2_with fail
                          go_ret
                          exact ⟨ret_b HS.out.symm, gb_trans HG.out (gb_trans HG1.out HG6.out (.inl rfl)) (.inl rfl)⟩
                      · have hlt1 : ¬ (j : Int) < (a.l.length : Int) := by omega
                        have HS : Hid (Vl.same a b = true) := hide ((Vl.same_eq _ _).2 (by rw [Vl.eta a, Vl.eta b, H1.out, HN.out, HN2.out, take_eq_all HE.out hlt H4.out]))
                        go_wp2_with fail
                        go_ret
                        exact ⟨ret_b HS.out.symm, gb_trans HG.out HG1.out (.inl rfl)⟩
          · have e4 := nat_bne_f h4
            have HS := hide (Vl.ne_l h4)
            clear h4
            go_enter Try.func22, Try.ntmps22
            go_wp2_with fail
            go_ret
            exact ⟨ret_b HS.out.symm, by have := HG.out; rwa [HWE.out] at this⟩
        · have e3 := nat_bne_f h3
          have HS := hide (Vl.ne_s h3)
          clear h3
          go_enter Try.func22, Try.ntmps22
          go_wp2_with fail
          go_ret
          exact ⟨ret_b HS.out.symm, by have := HG.out; rwa [HWE.out] at this⟩
      · have e2 := nat_bne_f h2
        have HS := hide (Vl.ne_n h2)
        clear h2
        go_enter Try.func22, Try.ntmps22
        go_wp2_with fail
        go_ret
        exact ⟨ret_b HS.out.symm, by have := HG.out; rwa [HWE.out] at this⟩
    · have e1 := int_bne_f h1
      have HS := hide (Vl.ne_t h1)
      clear h1
      go_enter Try.func22, Try.ntmps22
      go_wp2_with fail
      go_ret
      exact ⟨ret_b HS.out.symm, by have := HG.out; rwa [HWE.out] at this⟩
end Go.Proofs.Ytfdckhnhancbdaa
