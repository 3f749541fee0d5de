/-
  The document's own questions: abs, IsAtom, IsVector, column, Count, fields.
-/
import Derived.Test.YtbmgodmfpoappaaGreatQVb
import Derived.Deep.RegionHeld3
import Derived.Deep.DrawnRows
import Derived.Test.YtbmgodmfpoappaaGreatQVo
namespace Go.Proofs.YtbmgodmfpoappaaGreat
open Go.RowKit
attribute [local go_sem ↓] Go.wp_at_zero Go.wp_at_succ
theorem Vl.ne_t {a b : Vl} (h : ¬ a.t = b.t) : Vl.same a b = false := Vl.same_ne (by rintro rfl; exact h rfl)
theorem Vl.ne_n {a b : Vl} (h : ¬ a.n.length = b.n.length) : Vl.same a b = false := Vl.same_ne (by rintro rfl; exact h rfl)
theorem Vl.ne_s {a b : Vl} (h : ¬ a.s.length = b.s.length) : Vl.same a b = false := Vl.same_ne (by rintro rfl; exact h rfl)
theorem Vl.ne_l {a b : Vl} (h : ¬ a.l.length = b.l.length) : Vl.same a b = false := Vl.same_ne (by rintro rfl; exact h rfl)
theorem Vl.lens (v : Vl) (h : v.tot ≤ 1200000000) : v.n.length ≤ 1200000000 ∧ v.s.length ≤ 1200000000 ∧ v.l.length ≤ 1200000000 ∧ Vl.tots v.l ≤ 1200000000 := by
 rw [Vl.tot_def] at h
 have := Vl.length_le_tots v.l
 omega
theorem Vl.tot_part {v : Vl} (h : v.tot ≤ 1200000000) {x : Vl} (hx : x ∈ v.l) : x.tot ≤ 1200000000 := by
 have h1 := (Vl.lens v h).2.2.2
 have h2 := Vl.tot_mem hx
 omega
theorem Vl.depth_part {v : Vl} {d : Nat} (h : v.depth ≤ d + 1) {x : Vl} (hx : x ∈ v.l) : x.depth ≤ d := by
 have := Vl.depth_lt hx
 omega
theorem int_bne_t {a b : Int} (h : a = b) : (a != b) = false := by rw [h]; simp
theorem int_bne_f {a b : Int} (h : ¬ a = b) : (a != b) = true := by rw [bne_iff_ne]; exact h
theorem nat_bne_t {a b : Nat} (h : a = b) : ((a : Int) != (b : Int)) = false := by rw [h]; simp
theorem nat_bne_f {a b : Nat} (h : ¬ a = b) : ((a : Int) != (b : Int)) = true := by rw [bne_iff_ne]; omega
set_option maxHeartbeats 8000000 in
set_option maxRecDepth 100000 in
theorem rMatch_d (d : Nat) : ∀ (a b : Vl) (w : World) (B : Nat) (nA : Option Addr) (nc : Nat) (sA : Option Addr) (sc : Nat) (lA : Option Addr) (lc : Nat) (nA' : Option Addr) (nc' : Nat) (sA' : Option Addr) (sc' : Nat) (lA' : Option Addr) (lc' : Nat), a.depth ≤ d → a.tot ≤ 1200000000 → b.tot ≤ 1200000000 → B ≤ w.heap.size → VB w B a nA nc sA sc lA lc → VB w B b nA' nc' sA' sc' lA' lc' →
  Calls Tryz.prog 8 #[.agg #[.int .i64 a.t, .slice nA a.n.length nc, .slice sA a.s.length sc, .slice lA a.l.length lc], .agg #[.int .i64 b.t, .slice nA' b.n.length nc', .slice sA' b.s.length sc', .slice lA' b.l.length lc']] w
   fun e w' => e = .returned (.bool (Vl.same a b)) ∧ w.grownBy w' none := by
 induction d with
 | zero => intro v; intros; rw [Vl.depth_def] at *; omega
 | succ d ih =>
  intro a b w B nA nc sA sc lA lc nA' nc' sA' sc' lA' lc' hd ht ht' hB hv hv'
  have IH := hide ih
  have HD := hide hd
  have HT := hide ht
  have HT' := hide ht'
  have HBB := hide hB
  obtain ⟨l1, l2, l3, _⟩ := Vl.lens a ht
  obtain ⟨m1, m2, m3, _⟩ := Vl.lens b ht'
  obtain ⟨wa, hwa⟩ : ∃ wa, wa = (w.alloc (.cells #[.int .i64 a.t, .slice nA a.n.length nc, .slice sA a.s.length sc, .slice lA a.l.length lc] 26)).alloc (.cells #[.int .i64 b.t, .slice nA' b.n.length nc', .slice sA' b.s.length sc', .slice lA' b.l.length lc'] 26) := ⟨_, rfl⟩
  have hg : w.grownBy wa none := by rw [hwa]; exact gb_alloc (gb_alloc (gb_refl w none) _) _
  have hc := (C4.box w (.int .i64 a.t) (.slice nA a.n.length nc) (.slice sA a.s.length sc) (.slice lA a.l.length lc) 26).gb (gb_alloc (gb_refl _ none) (.cells #[.int .i64 b.t, .slice nA' b.n.length nc', .slice sA' b.s.length sc', .slice lA' b.l.length lc'] 26))
  have hc' := C4.box2 w (.cells #[.int .i64 a.t, .slice nA a.n.length nc, .slice sA a.s.length sc, .slice lA a.l.length lc] 26) (.int .i64 b.t) (.slice nA' b.n.length nc') (.slice sA' b.s.length sc') (.slice lA' b.l.length lc') 26
  rw [← hwa] at hc hc'
  have HV := hide (hv.gb hg hB)
  have HV' := hide (hv'.gb hg hB)
  have HBW := hide (Nat.le_trans hB hg.size)
  have HG := hide hg
  have HWE := hide hwa
  have HC := hide hc
  have HC' := hide hc'
  clear ih hd ht ht' hB hv hv' hg hwa hc hc'
  by_cases h1 : a.t = b.t
  ·have e1 := int_bne_t h1
   have H1 := hide h1
   clear h1
   by_cases h2 : a.n.length = b.n.length
   ·have e2 := nat_bne_t h2
    have H2 := hide h2
    clear h2
    by_cases h3 : a.s.length = b.s.length
    ·have e3 := nat_bne_t h3
     have H3 := hide h3
     clear h3
     by_cases h4 : a.l.length = b.l.length
     ·have e4 := nat_bne_t h4
      have H4 := hide h4
      clear h4
      go_enter Tryz.func8, Tryz.ntmps8
      go_wp2_with fail
      rw [← HWE.out]
      have g1 : wa.cell? ⟨w.heap.size, 1, none⟩ = some (.slice nA a.n.length nc) := HC.out.c1
      have g2 : wa.cell? ⟨w.heap.size, 2, none⟩ = some (.slice sA a.s.length sc) := HC.out.c2
      have g3 : wa.cell? ⟨w.heap.size, 3, none⟩ = some (.slice lA a.l.length lc) := HC.out.c3
      have k1 : wa.cell? ⟨w.heap.size + 1, 1, none⟩ = some (.slice nA' b.n.length nc') := HC'.out.c1
      have k2 : wa.cell? ⟨w.heap.size + 1, 2, none⟩ = some (.slice sA' b.s.length sc') := HC'.out.c2
      have k3 : wa.cell? ⟨w.heap.size + 1, 3, none⟩ = some (.slice lA' b.l.length lc') := HC'.out.c3
      go_loopw [5] (fun i wr => ∃ j : Nat, i = .int .i64 (j : Int) ∧ j ≤ a.n.length ∧ a.n.take j = b.n.take j ∧ wa.grownBy wr none) (fun i _ => a.n.length - (intOf i).toNat)
      case atStart => exact ⟨0, rfl, by omega, rfl, gb_refl wa none⟩
      case round =>
       obtain ⟨j, rfl, hj, he, hg⟩ := hrel
       have HE := hide he
       have HG1 := hide hg
       clear he hg
       have g1 := cell_gb g1 HG1.out
       have k1 := cell_gb k1 HG1.out
       by_cases hlt : j < a.n.length
       ·have hlt1 : (j : Int) < (a.n.length : Int) := by omega
        have hltm : j < b.n.length := by have := H2.out; omega
        have hlt2 : (j : Int) < (b.n.length : Int) := by omega
        obtain ⟨p, rfl, _, ca⟩ := HV.out.n.i64 hlt
        obtain ⟨p', rfl, _, ca'⟩ := HV'.out.n.i64 hltm
        have ca := cell_gb ca HG1.out
        have ca' := cell_gb ca' HG1.out
        by_cases hx : a.n[j] = b.n[j]
        ·have hx2 := int_bne_t hx
         have HX := hide hx
         clear hx
         go_wp2_with fail
         go_quiet (fail)
         go_wp2_with fail
         go_roundw
         case rel => exact ⟨j + 1, by go_num, by omega, take_eq_step HE.out hlt hltm HX.out, by first | exact gb_drewN HG1.out _ | exact HG1.out⟩
         case measure => simp [intOf]; omega
        ·have hx2 := int_bne_f hx
         have HS : Hid (Vl.same a b = false) := hide (Vl.same_ne (by rintro rfl; exact hx rfl))
         clear hx
         go_wp2_with fail
         go_quiet (fail)
         go_wp2_with fail
         go_ret
         exact ⟨ret_b HS.out.symm, gb_drewN (gb_trans HG.out HG1.out (.inl rfl)) _⟩
       ·have hlt1 : ¬ (j : Int) < (a.n.length : Int) := by omega
        have HN := hide (take_eq_all HE.out hlt H2.out)
        go_wp2_with fail
        obtain ⟨wo, rfl⟩ : ∃ wo : World, wo = wr := ⟨_, rfl⟩
        clear g1 k1
        go_loopw [6] (fun i wr => ∃ j : Nat, i = .int .i64 (j : Int) ∧ j ≤ a.s.length ∧ a.s.take j = b.s.take j ∧ wa.grownBy wr none) (fun i _ => a.s.length - (intOf i).toNat)
        case atStart => exact ⟨0, rfl, by omega, rfl, HG1.out⟩
        case round =>
         obtain ⟨j, rfl, hj, he, hg⟩ := hrel
         have HE := hide he
         have HG1 := hide hg
         clear he hg
         have g2 := cell_gb g2 HG1.out
         have k2 := cell_gb k2 HG1.out
         by_cases hlt : j < a.s.length
         ·have hlt1 : (j : Int) < (a.s.length : Int) := by omega
          have hltm : j < b.s.length := by have := H3.out; omega
          have hlt2 : (j : Int) < (b.s.length : Int) := by omega
          obtain ⟨p, rfl, _, ca⟩ := HV.out.s.str hlt
          obtain ⟨p', rfl, _, ca'⟩ := HV'.out.s.str hltm
          have ca := cell_gb ca HG1.out
          have ca' := cell_gb ca' HG1.out
          by_cases hx : a.s[j] = b.s[j]
          ·have hx2 := ba_eq hx
           have HX := hide hx
           clear hx
           go_wp2_with fail
           go_quiet (fail)
           go_wp2_with fail
           go_roundw
           case rel => exact ⟨j + 1, by go_num, by omega, take_eq_step HE.out hlt hltm HX.out, by first | exact gb_drewN HG1.out _ | exact HG1.out⟩
           case measure => simp [intOf]; omega
          ·have hx2 := ba_ne hx
           have HS : Hid (Vl.same a b = false) := hide (Vl.same_ne (by rintro rfl; exact hx rfl))
           clear hx
           go_wp2_with fail
           go_quiet (fail)
           go_wp2_with fail
           go_ret
           exact ⟨ret_b HS.out.symm, gb_drewN (gb_trans HG.out HG1.out (.inl rfl)) _⟩
         ·have hlt1 : ¬ (j : Int) < (a.s.length : Int) := by omega
          have HN2 := hide (take_eq_all HE.out hlt H3.out)
          go_wp2_with fail
          obtain ⟨wo, rfl⟩ : ∃ wo : World, wo = wr := ⟨_, rfl⟩
          clear g2 k2
          go_loopw [7] (fun i wr => ∃ j : Nat, i = .int .i64 (j : Int) ∧ j ≤ a.l.length ∧ a.l.take j = b.l.take j ∧ wa.grownBy wr none) (fun i _ => a.l.length - (intOf i).toNat)
          case atStart => exact ⟨0, rfl, by omega, rfl, HG1.out⟩
          case round =>
           obtain ⟨j, rfl, hj, he, hg⟩ := hrel
           have HE := hide he
           have HG1 := hide hg
           clear he hg
           have g3 := cell_gb g3 HG1.out
           have k3 := cell_gb k3 HG1.out
           by_cases hlt : j < a.l.length
           ·have hlt1 : (j : Int) < (a.l.length : Int) := by omega
            have hltm : j < b.l.length := by have := H4.out; omega
            have hlt2 : (j : Int) < (b.l.length : Int) := by omega
            obtain ⟨q, o, xA, xc, yA, yc, zA, zc, rfl, hqB, hc4, hvb⟩ := HV.out.l.at_ hlt
            obtain ⟨q', o', xA', xc', yA', yc', zA', zc', rfl, hqB', hc4', hvb'⟩ := HV'.out.l.at_ hltm
            obtain ⟨d0, d1, d2, d3⟩ := hc4.gb HG1.out
            obtain ⟨f0, f1, f2, f3⟩ := hc4'.gb HG1.out
            have HCALL := hide (IH.out a.l[j] b.l[j] wr.drew B xA xc yA yc zA zc xA' xc' yA' yc' zA' zc' (Vl.depth_part HD.out (List.getElem_mem hlt)) (Vl.tot_part HT.out (List.getElem_mem hlt)) (Vl.tot_part HT'.out (List.getElem_mem hltm)) (Nat.le_trans HBW.out HG1.out.size) ((hvb.gb HG1.out HBW.out).gb (gb_drew (gb_refl wr none)) (Nat.le_trans HBW.out HG1.out.size)) ((hvb'.gb HG1.out HBW.out).gb (gb_drew (gb_refl wr none)) (Nat.le_trans HBW.out HG1.out.size)))
            clear hc4 hc4' hvb hvb'
            have HGW := hide HG1.out
            by_cases hx : Vl.same a.l[j] b.l[j] = true
            ·rw [hx] at HCALL
             have HX := hide ((Vl.same_eq _ _).1 hx)
             clear hx
             go_wp2_with fail
             go_region_held3 (fun w' => w'.cell? ⟨w.heap.size, 3, none⟩ = some (.slice (some ⟨q, o, none⟩) a.l.length lc) ∧ w'.cell? ⟨w.heap.size + 1, 3, none⟩ = some (.slice (some ⟨q', o', none⟩) b.l.length lc') ∧ w'.cell? ⟨q, o + j * 4, none⟩ = some (.int .i64 a.l[j].t) ∧ w'.cell? ⟨q, o + j * 4 + 1, none⟩ = some (.slice xA a.l[j].n.length xc) ∧ w'.cell? ⟨q, o + j * 4 + 2, none⟩ = some (.slice yA a.l[j].s.length yc) ∧ w'.cell? ⟨q, o + j * 4 + 3, none⟩ = some (.slice zA a.l[j].l.length zc) ∧ w'.cell? ⟨q', o' + j * 4, none⟩ = some (.int .i64 b.l[j].t) ∧ w'.cell? ⟨q', o' + j * 4 + 1, none⟩ = some (.slice xA' b.l[j].n.length xc') ∧ w'.cell? ⟨q', o' + j * 4 + 2, none⟩ = some (.slice yA' b.l[j].s.length yc') ∧ w'.cell? ⟨q', o' + j * 4 + 3, none⟩ = some (.slice zA' b.l[j].l.length zc')) (first | exact ⟨g3, k3, d0, d1, d2, d3, f0, f1, f2, f3⟩ | exact ⟨cell_gb g3 HG6.out, cell_gb k3 HG6.out, cell_gb d0 HG6.out, cell_gb d1 HG6.out, cell_gb d2 HG6.out, cell_gb d3 HG6.out, cell_gb f0 HG6.out, cell_gb f1 HG6.out, cell_gb f2 HG6.out, cell_gb f3 HG6.out⟩ | go_keep) ((go_simp; go_at_call 8; refine HCALL.out.mono ?_; rintro e w6 ⟨rfl, hg6⟩; have HG6 := hide (show wr.grownBy w6 none from gb_trans (gb_drew (gb_refl wr none)) hg6 (.inl rfl)); clear hg6))
             go_wp2_with fail
             go_roundw
             case rel => exact ⟨j + 1, by go_num, by omega, take_eq_step HE.out hlt hltm HX.out, gb_trans HG1.out HG6.out (.inl rfl)⟩
             case measure => simp [intOf]; omega
            ·have hx := Bool.eq_false_iff.2 hx
             rw [hx] at HCALL
             have HS : Hid (Vl.same a b = false) := hide (Vl.same_ne (by rintro rfl; rw [Vl.same_refl] at hx; cases hx))
             clear hx
             go_wp2_with fail
             go_region_held3 (fun w' => w'.cell? ⟨w.heap.size, 3, none⟩ = some (.slice (some ⟨q, o, none⟩) a.l.length lc) ∧ w'.cell? ⟨w.heap.size + 1, 3, none⟩ = some (.slice (some ⟨q', o', none⟩) b.l.length lc') ∧ w'.cell? ⟨q, o + j * 4, none⟩ = some (.int .i64 a.l[j].t) ∧ w'.cell? ⟨q, o + j * 4 + 1, none⟩ = some (.slice xA a.l[j].n.length xc) ∧ w'.cell? ⟨q, o + j * 4 + 2, none⟩ = some (.slice yA a.l[j].s.length yc) ∧ w'.cell? ⟨q, o + j * 4 + 3, none⟩ = some (.slice zA a.l[j].l.length zc) ∧ w'.cell? ⟨q', o' + j * 4, none⟩ = some (.int .i64 b.l[j].t) ∧ w'.cell? ⟨q', o' + j * 4 + 1, none⟩ = some (.slice xA' b.l[j].n.length xc') ∧ w'.cell? ⟨q', o' + j * 4 + 2, none⟩ = some (.slice yA' b.l[j].s.length yc') ∧ w'.cell? ⟨q', o' + j * 4 + 3, none⟩ = some (.slice zA' b.l[j].l.length zc')) (first | exact ⟨g3, k3, d0, d1, d2, d3, f0, f1, f2, f3⟩ | exact ⟨cell_gb g3 HG6.out, cell_gb k3 HG6.out, cell_gb d0 HG6.out, cell_gb d1 HG6.out, cell_gb d2 HG6.out, cell_gb d3 HG6.out, cell_gb f0 HG6.out, cell_gb f1 HG6.out, cell_gb f2 HG6.out, cell_gb f3 HG6.out⟩ | go_keep) ((go_simp; go_at_call 8; refine HCALL.out.mono ?_; rintro e w6 ⟨rfl, hg6⟩; have HG6 := hide (show wr.grownBy w6 none from gb_trans (gb_drew (gb_refl wr none)) hg6 (.inl rfl)); clear hg6))
             go_wp2_with fail
             go_ret
             exact ⟨ret_b HS.out.symm, gb_trans HG.out (gb_trans HG1.out HG6.out (.inl rfl)) (.inl rfl)⟩
           ·have hlt1 : ¬ (j : Int) < (a.l.length : Int) := by omega
            have HS : Hid (Vl.same a b = true) := hide ((Vl.same_eq _ _).2 (by rw [Vl.eta a, Vl.eta b, H1.out, HN.out, HN2.out, take_eq_all HE.out hlt H4.out]))
            go_wp2_with fail
            go_ret
            exact ⟨ret_b HS.out.symm, gb_trans HG.out HG1.out (.inl rfl)⟩
     ·have e4 := nat_bne_f h4
      have HS := hide (Vl.ne_l h4)
      clear h4
      go_enter Tryz.func8, Tryz.ntmps8
      go_wp2_with fail
      go_ret
      exact ⟨ret_b HS.out.symm, by have := HG.out; rwa [HWE.out] at this⟩
    ·have e3 := nat_bne_f h3
     have HS := hide (Vl.ne_s h3)
     clear h3
     go_enter Tryz.func8, Tryz.ntmps8
     go_wp2_with fail
     go_ret
     exact ⟨ret_b HS.out.symm, by have := HG.out; rwa [HWE.out] at this⟩
   ·have e2 := nat_bne_f h2
    have HS := hide (Vl.ne_n h2)
    clear h2
    go_enter Tryz.func8, Tryz.ntmps8
    go_wp2_with fail
    go_ret
    exact ⟨ret_b HS.out.symm, by have := HG.out; rwa [HWE.out] at this⟩
  ·have e1 := int_bne_f h1
   have HS := hide (Vl.ne_t h1)
   clear h1
   go_enter Tryz.func8, Tryz.ntmps8
   go_wp2_with fail
   go_ret
   exact ⟨ret_b HS.out.symm, by have := HG.out; rwa [HWE.out] at this⟩
end Go.Proofs.YtbmgodmfpoappaaGreat
namespace Go.Proofs.YtbmgodmfpoappaaGreat
open Go.RowKit
attribute [local go_sem ↓] Go.wp_at_zero Go.wp_at_succ
def NewV (v : Vl) (w : World) (e : Ending) (w' : World) : Prop := ∃ nA nc sA sc lA lc f, e = .returned (.agg #[.int .i64 v.t, .slice nA v.n.length nc, .slice sA v.s.length sc, .slice lA v.l.length lc]) ∧
 VOw w' v [.int .i64 v.t, .slice nA v.n.length nc, .slice sA v.s.length sc, .slice lA v.l.length lc] f ∧ New w w' f ∧ w.grownBy w' none
def NewL (l : List Vl) (w : World) (e : Ending) (w' : World) : Prop := ∃ A c xs f g, e = .returned (.slice A l.length c) ∧ l.length ≤ c ∧ Own w' f A (List.flatten xs) ∧ VOwAll w' l xs g ∧ New w w' (f ++ g) ∧ w.grownBy w' none
theorem Tryz.infoV : (Tryz.prog.info? 26).map (fun i => (i.zero, i.size, i.bytes)) = some (some (.agg #[.int .i64 0, .slice none 0 0, .slice none 0 0, .slice none 0 0]), 4, 80) := by kernel_rfl
def Fill (w : World) (l : List Vl) (j : Nat) (wr : World) : Prop := ∃ xs f cur, wr.heap[w.heap.size]? = some (.cells cur 26 (0, 0)) ∧ cur.size = l.length * 4 ∧ cur.toList.take (j * 4) = List.flatten xs ∧ VOwAll wr (l.take j) xs f ∧ f.Nodup ∧ (∀ b ∈ f, w.heap.size < b) ∧ w.grownBy wr none
theorem Fill.step {w wr wa w6 : World} {l : List Vl} {j : Nat} {xs : List (List Value)} {f f6 : List Nat} {cur : Array Value} {c0 c1 c2 c3 : Value} (hlt : j < l.length) (hh6 : w6.heap[w.heap.size]? = some (.cells cur 26 (0, 0))) (hs : cur.size = l.length * 4)
  (htk : cur.toList.take (j * 4) = List.flatten xs) (hall : VOwAll wr (l.take j) xs f) (hnd : f.Nodup) (hbig : ∀ b ∈ f, w.heap.size < b) (hg : w.grownBy wr none) (hga : wr.grownBy wa none) (hg6 : wa.grownBy w6 none)
  (hw : w.heap.size < wr.heap.size) (ho6 : VOw w6 l[j] [c0, c1, c2, c3] f6) (hn6 : New wa w6 f6) : Fill w l (j + 1) (put4 w6 w.heap.size (j * 4) c0 c1 c2 c3) := by
 have h1 := hga.size
 have h2 := hg6.size
 have hk : ∀ b, b < w6.heap.size → b ≠ w.heap.size → (put4 w6 w.heap.size (j * 4) c0 c1 c2 c3).heap[b]? = w6.heap[b]? := fun b hb hne => (put4_gb w6 w.heap.size (j * 4) c0 c1 c2 c3).block b hb (by intro e; injection e with e; exact hne e)
 refine ⟨xs ++ [[c0, c1, c2, c3]], f ++ f6, _, put4_blk hh6 c0 c1 c2 c3, by simp [hs], ?_, ?_, ?_, ?_, ?_⟩
 ·rw [show (j + 1) * 4 = j * 4 + 4 by omega, put4_take cur (j * 4) (by omega), htk, List.flatten_append]
  simp
 ·rw [List.take_succ_eq_append_getElem hlt]
  refine VOwAll.snoc _ _ _ (VOwAll.keep _ _ _ hall fun b hb => ?_) (VOw.keep _ _ _ ho6 fun b hb => ?_)
  ·have hb1 := VOwAll.lt _ _ _ hall b hb
   have hb2 := hbig b hb
   rw [hk b (by omega) (by omega), hg6.block b (by omega) (by simp), hga.block b (by omega) (by simp)]
  ·have hb1 := hn6.2 b hb
   exact hk b (by omega) (by omega)
 ·refine List.nodup_append.2 ⟨hnd, hn6.1, fun x hx y hy e => ?_⟩
  have := VOwAll.lt _ _ _ hall x hx
  have := (hn6.2 y hy).1
  omega
 ·intro b hb
  rcases List.mem_append.1 hb with hb | hb
  ·exact hbig b hb
  ·have := (hn6.2 b hb).1
   omega
 ·exact gb_trans (gb_trans hg (gb_trans hga hg6 (.inl rfl)) (.inl rfl)) (put4_gb w6 w.heap.size (j * 4) c0 c1 c2 c3) (.inr (.inr ⟨_, rfl, Nat.le_refl _⟩))
theorem Fill.done {w wr : World} {l : List Vl} (h : Fill w l l.length wr) (h0 : 0 < l.length) : NewL l w (.returned (.slice (some ⟨w.heap.size, 0, none⟩) l.length l.length)) wr := by
 obtain ⟨xs, f, cur, hh, hs, htk, hall, hnd, hbig, hg⟩ := h
 rw [List.take_length] at hall
 have hlen : (List.flatten xs).length = l.length * 4 := by rw [flat4_length hall.all4, hall.length]
 have hne : List.flatten xs ≠ [] := by intro e; rw [e] at hlen; simp at hlen; omega
 refine ⟨_, _, xs, [w.heap.size], f, rfl, Nat.le_refl _, .inr ⟨_, _, cur, rfl, rfl, hh, by rw [hlen]; exact htk, hne⟩, hall, ⟨?_, ?_⟩, hg⟩
 ·simp only [List.singleton_append, List.nodup_cons]
  exact ⟨fun hm => by have := hbig _ hm; omega, hnd⟩
 ·intro b hb
  rcases List.mem_append.1 hb with hb | hb
  ·obtain rfl := List.mem_singleton.1 hb
   exact ⟨Nat.le_refl _, blk_lt hh⟩
  ·exact ⟨Nat.le_of_lt (hbig b hb), VOwAll.lt _ _ _ hall b hb⟩
end Go.Proofs.YtbmgodmfpoappaaGreat
namespace Go.Proofs.YtbmgodmfpoappaaGreat
open Go.RowKit
attribute [local go_sem ↓] Go.wp_at_zero Go.wp_at_succ
theorem int_beq_t {a b : Int} (h : a = b) : (a == b) = true := beq_iff_eq.2 h
theorem int_beq_f {a b : Int} (h : ¬ a = b) : (a == b) = false := beq_eq_false_iff_ne.2 h
theorem rMatch_any (a b : Vl) (w : World) (B : Nat) (nA : Option Addr) (nc : Nat) (sA : Option Addr) (sc : Nat) (lA : Option Addr) (lc : Nat) (nA' : Option Addr) (nc' : Nat) (sA' : Option Addr) (sc' : Nat) (lA' : Option Addr) (lc' : Nat) (ht : a.tot ≤ 1200000000) (ht' : b.tot ≤ 1200000000) (hB : B ≤ w.heap.size) (h : VB w B a nA nc sA sc lA lc) (h' : VB w B b nA' nc' sA' sc' lA' lc') :
  Calls Tryz.prog 8 #[.agg #[.int .i64 a.t, .slice nA a.n.length nc, .slice sA a.s.length sc, .slice lA a.l.length lc], .agg #[.int .i64 b.t, .slice nA' b.n.length nc', .slice sA' b.s.length sc', .slice lA' b.l.length lc']] w
   fun e w' => e = .returned (.bool (Vl.same a b)) ∧ w.grownBy w' none := rMatch_d a.depth a b w B nA nc sA sc lA lc nA' nc' sA' sc' lA' lc' (Nat.le_refl _) ht ht' hB h h'
end Go.Proofs.YtbmgodmfpoappaaGreat
namespace Go.Proofs.YtbmgodmfpoappaaGreat
open Go.RowKit
attribute [local go_sem ↓] Go.wp_at_zero Go.wp_at_succ
def hasN (t : Int) : Bool := t == 1 || t == 2 || t == 4 || t == 5 || t == -1 || t == -2 || t == -4 || t == -5
def hasS (t : Int) : Bool := t == 3 || t == -3
def atomT (t : Int) : Bool := decide (t < 0) && (hasN t || hasS t)
set_option maxHeartbeats 4000000 in
theorem hasN_any (t : Int) (w : World) : Calls Tryz.prog 70 #[.int .i64 t] w fun e w' => e = .returned (.bool (hasN t)) ∧ w = w' := by
 by_cases c : hasN t = true
 ·rw [c]
  unfold hasN at c
  simp only [Bool.or_eq_true, beq_iff_eq] at c
  rcases c with (((((((rfl | rfl) | rfl) | rfl) | rfl) | rfl) | rfl) | rfl) <;>
  ·go_enter Tryz.func70, Tryz.ntmps70
   go_wp2_with fail
   go_ret
   exact ⟨rfl, rfl⟩
 ·have c' : hasN t = false := by simpa using c
  rw [c']
  unfold hasN at c'
  simp only [Bool.or_eq_false_iff] at c'
  obtain ⟨⟨⟨⟨⟨⟨⟨c1, c2⟩, c3⟩, c4⟩, c5⟩, c6⟩, c7⟩, c8⟩ := c'
  go_enter Tryz.func70, Tryz.ntmps70
  go_wp2_with fail
  go_ret
  exact ⟨rfl, rfl⟩
set_option maxHeartbeats 4000000 in
theorem hasS_any (t : Int) (w : World) : Calls Tryz.prog 80 #[.int .i64 t] w fun e w' => e = .returned (.bool (hasS t)) ∧ w = w' := by
 by_cases c1 : t = 3
 ·subst c1
  go_enter Tryz.func80, Tryz.ntmps80
  go_wp2_with fail
  go_ret
  exact ⟨rfl, rfl⟩
 ·have e1 := int_beq_f c1
  by_cases c2 : t = -3
  ·subst c2
   go_enter Tryz.func80, Tryz.ntmps80
   go_wp2_with fail
   go_ret
   exact ⟨rfl, rfl⟩
  ·have e2 := int_beq_f c2
   have HS := hide (show hasS t = false by unfold hasS; rw [e1, e2]; rfl)
   go_enter Tryz.func80, Tryz.ntmps80
   go_wp2_with fail
   go_ret
   exact ⟨ret_b HS.out.symm, rfl⟩
set_option maxHeartbeats 4000000 in
theorem isAtom_any (t : Int) (c1 c2 c3 : Value) (w : World) : Calls Tryz.prog 42 #[.agg #[.int .i64 t, c1, c2, c3]] w fun e w' => e = .returned (.bool (atomT t)) ∧ w.grownBy w' none := by
 obtain ⟨wa, hwa⟩ : ∃ wa, wa = w.alloc (.cells #[.int .i64 t, c1, c2, c3] 26) := ⟨_, rfl⟩
 have hc := (C4.box w (.int .i64 t) c1 c2 c3 26).c0
 rw [← hwa] at hc
 have HG := hide (show w.grownBy wa none by rw [hwa]; exact gb_alloc (gb_refl w none) _)
 have HWE := hide hwa
 clear hwa
 by_cases h0 : t < 0
 ·have HN := hide (hasN_any t)
  have HS := hide (hasS_any t)
  have HA : Hid (atomT t = (hasN t || hasS t)) := hide (by unfold atomT; simp [h0])
  rw [HA.out]
  clear HA
  cases hn : hasN t
  ·rw [hn] at HN
   clear hn
   generalize hasS t = b at *
   go_enter Tryz.func42, Tryz.ntmps42
   go_wp2_with (first
    | (go_at_call 70; refine (HN.out _).mono ?_; rintro e w1 ⟨rfl, rfl⟩)
    | (go_at_call 80; refine (HS.out _).mono ?_; rintro e w1 ⟨rfl, rfl⟩))
   go_ret
   exact ⟨ret_b (by simp), by have := HG.out; rwa [HWE.out] at this⟩
  ·rw [hn] at HN
   clear hn
   go_enter Tryz.func42, Tryz.ntmps42
   go_wp2_with (first
    | (go_at_call 70; refine (HN.out _).mono ?_; rintro e w1 ⟨rfl, rfl⟩))
   go_ret
   exact ⟨ret_b (by simp), by have := HG.out; rwa [HWE.out] at this⟩
 ·have HA : Hid (atomT t = false) := hide (by unfold atomT; simp [h0])
  have h1 : 0 ≤ t := by omega
  go_enter Tryz.func42, Tryz.ntmps42
  go_wp2_with fail
  go_ret
  exact ⟨ret_b HA.out.symm, by have := HG.out; rwa [HWE.out] at this⟩
set_option maxHeartbeats 4000000 in
set_option maxRecDepth 100000 in
theorem count_d (d : Nat) : ∀ (v : Vl) (w : World) (B : Nat) (nA : Option Addr) (nc : Nat) (sA : Option Addr) (sc : Nat) (lA : Option Addr) (lc : Nat), v.depth ≤ d → v.tot ≤ 1200000000 → B ≤ w.heap.size → VB w B v nA nc sA sc lA lc →
  Calls Tryz.prog 58 #[.agg #[.int .i64 v.t, .slice nA v.n.length nc, .slice sA v.s.length sc, .slice lA v.l.length lc]] w fun e w' => e = .returned (.int .i64 (v.count : Nat)) ∧ w.grownBy w' none := by
 induction d with
 | zero => intro v; intros; rw [Vl.depth_def] at *; omega
 | succ d ih =>
  intro v w B nA nc sA sc lA lc hd ht hB hv
  obtain ⟨l1, l2, l3, l4⟩ := Vl.lens v ht
  obtain ⟨wa, hwa⟩ : ∃ wa, wa = w.alloc (.cells #[.int .i64 v.t, .slice nA v.n.length nc, .slice sA v.s.length sc, .slice lA v.l.length lc] 26) := ⟨_, rfl⟩
  have hg : w.grownBy wa none := by rw [hwa]; exact gb_alloc (gb_refl w none) _
  have hc := C4.box w (.int .i64 v.t) (.slice nA v.n.length nc) (.slice sA v.s.length sc) (.slice lA v.l.length lc) 26
  rw [← hwa] at hc
  have IH := hide ih
  have HD := hide hd
  have HT := hide ht
  have HV := hide (hv.gb hg hB)
  have HBW := hide (Nat.le_trans hB hg.size)
  have HC := hide (Vl.count_def v)
  have HG := hide hg
  have HWE := hide hwa
  clear ih hd ht hB hv hg hwa hc
  have fin : w.grownBy (w.alloc (.cells #[.int .i64 v.t, .slice nA v.n.length nc, .slice sA v.s.length sc, .slice lA v.l.length lc] 26)) none := gb_alloc (gb_refl w none) _
  have FIN := hide fin
  clear fin
  by_cases h1 : v.t = 1 ∨ v.t = 2 ∨ v.t = 4 ∨ v.t = 5
  ·rw [if_pos h1] at HC
   rw [HC.out]
   generalize v.t = t at *
   clear HV
   rcases h1 with rfl | rfl | rfl | rfl <;>
   ·go_enter Tryz.func58, Tryz.ntmps58
    go_wp2_with fail
    go_ret
    exact ⟨rfl, FIN.out⟩
  rw [if_neg h1] at HC
  simp only [not_or] at h1
  obtain ⟨h11, h12, h13, h14⟩ := h1
  have e11 := int_beq_f h11
  have e12 := int_beq_f h12
  have e13 := int_beq_f h13
  have e14 := int_beq_f h14
  clear h11 h12 h13 h14
  by_cases h2 : v.t = 3
  ·have e2 := int_beq_t h2
   rw [if_pos h2] at HC
   rw [HC.out]
   clear h2
   go_enter Tryz.func58, Tryz.ntmps58
   go_wp2_with fail
   go_ret
   exact ⟨rfl, FIN.out⟩
  have e2 := int_beq_f h2
  rw [if_neg h2] at HC
  clear h2
  by_cases h3 : v.t = 0
  ·have e3 := int_beq_t h3
   rw [if_pos h3] at HC
   rw [HC.out]
   clear h3
   go_enter Tryz.func58, Tryz.ntmps58
   go_wp2_with fail
   go_ret
   exact ⟨rfl, FIN.out⟩
  have e3 := int_beq_f h3
  rw [if_neg h3] at HC
  clear h3
  by_cases h4 : v.t = 98 ∨ v.t = 99
  ·rw [if_pos h4] at HC
   by_cases h0 : 0 < v.l.length
   ·rw [Vl.countH_at h0] at HC
    obtain ⟨b, o, xA, xc, yA, yc, zA, zc, hlA, hbB, hc4, hvb⟩ := HV.out.l.at_ h0
    subst hlA
    obtain ⟨d0, d1, d2, d3⟩ := hc4
    have d0' : wa.cell? ⟨b, o, none⟩ = some (.int .i64 v.l[0].t) := by simpa using d0
    have d1' : wa.cell? ⟨b, o + 1, none⟩ = some (.slice xA v.l[0].n.length xc) := by simpa using d1
    have d2' : wa.cell? ⟨b, o + 2, none⟩ = some (.slice yA v.l[0].s.length yc) := by simpa using d2
    have d3' : wa.cell? ⟨b, o + 3, none⟩ = some (.slice zA v.l[0].l.length zc) := by simpa using d3
    rw [HWE.out] at d0' d1' d2' d3'
    have HCALL := hide (IH.out v.l[0] wa B xA xc yA yc zA zc (Vl.depth_part HD.out (List.getElem_mem h0)) (Vl.tot_part HT.out (List.getElem_mem h0)) HBW.out hvb)
    have h01 : (0 : Int) < (v.l.length : Int) := by omega
    have HE := hide (congrArg (fun n : Nat => Ending.returned (Value.int .i64 (n : Int))) HC.out)
    clear hvb d0 d1 d2 d3 HC
    rcases h4 with h4 | h4
    ·have e4 := int_beq_t h4
     clear h4
     go_enter Tryz.func58, Tryz.ntmps58
     go_wp2_with (go_at_call 58; rw [← HWE.out]; refine HCALL.out.mono ?_; rintro e w1 ⟨rfl, hg1⟩; have HG1 := hide hg1; clear hg1)
     go_ret
     exact ⟨HE.out.symm, gb_trans HG.out HG1.out (.inl rfl)⟩
    ·have e4 : (v.t == 98) = false := by rw [h4]; rfl
     have e5 := int_beq_t h4
     clear h4
     go_enter Tryz.func58, Tryz.ntmps58
     go_wp2_with (go_at_call 58; rw [← HWE.out]; refine HCALL.out.mono ?_; rintro e w1 ⟨rfl, hg1⟩; have HG1 := hide hg1; clear hg1)
     go_ret
     exact ⟨HE.out.symm, gb_trans HG.out HG1.out (.inl rfl)⟩
   ·have hl0 : v.l.length = 0 := by omega
    have HE : Hid (v.count = 1) := hide (by rw [HC.out, List.eq_nil_of_length_eq_zero hl0]; rfl)
    have HL0 := hide hl0
    have h00 : ¬ (0 : Int) < (v.l.length : Int) := by omega
    clear hl0 h0 HC
    rw [HE.out]
    rcases h4 with h4 | h4
    ·have e4 := int_beq_t h4
     clear h4
     go_enter Tryz.func58, Tryz.ntmps58
     go_wp2_with fail
     go_ret
     exact ⟨rfl, FIN.out⟩
    ·have e4 : (v.t == 98) = false := by rw [h4]; rfl
     have e5 := int_beq_t h4
     clear h4
     go_enter Tryz.func58, Tryz.ntmps58
     go_wp2_with fail
     go_ret
     exact ⟨rfl, FIN.out⟩
  ·rw [if_neg h4] at HC
   rw [HC.out]
   simp only [not_or] at h4
   have e4 := int_beq_f h4.1
   have e5 := int_beq_f h4.2
   clear h4
   go_enter Tryz.func58, Tryz.ntmps58
   go_wp2_with fail
   go_ret
   exact ⟨rfl, FIN.out⟩
end Go.Proofs.YtbmgodmfpoappaaGreat
namespace Go.Proofs.YtbmgodmfpoappaaGreat
open Go.RowKit
attribute [local go_sem ↓] Go.wp_at_zero Go.wp_at_succ
def unif : List Vl → Bool
 | [] => false
 | a :: r => atomT a.t && r.all fun x => x.t == a.t
theorem RdV.first {w : World} {B : Nat} {A : Option Addr} {l : List Vl} (h : RdV w B A l) (h0 : 0 < l.length) : ∃ b o nA nc sA sc lA lc, A = some ⟨b, o, none⟩ ∧ b < B ∧
  C4 w b o (.int .i64 l[0].t) (.slice nA l[0].n.length nc) (.slice sA l[0].s.length sc) (.slice lA l[0].l.length lc) ∧ VB w B l[0] nA nc sA sc lA lc := by
 obtain ⟨b, o, nA, nc, sA, sc, lA, lc, h1, h2, h3, h4⟩ := h.at_ h0
 refine ⟨b, o, nA, nc, sA, sc, lA, lc, h1, h2, ?_, h4⟩
 simpa using h3
end Go.Proofs.YtbmgodmfpoappaaGreat
namespace Go.Proofs.YtbmgodmfpoappaaGreat
open Go.RowKit
attribute [local go_sem ↓] Go.wp_at_zero Go.wp_at_succ
def ofV (l : List Vl) : Vl := if unif l = true then .mk (-(match l with | [] => 0 | a :: _ => a.t)) (l.flatMap Vl.n) (l.flatMap Vl.s) [] else .mk 0 [] [] l
theorem flatN_take (l : List Vl) (j : Nat) (h : j < l.length) : (l.take (j + 1)).flatMap Vl.n = (l.take j).flatMap Vl.n ++ l[j].n := by
 rw [List.take_succ_eq_append_getElem h, List.flatMap_append]; simp
theorem flatS_take (l : List Vl) (j : Nat) (h : j < l.length) : (l.take (j + 1)).flatMap Vl.s = (l.take j).flatMap Vl.s ++ l[j].s := by
 rw [List.take_succ_eq_append_getElem h, List.flatMap_append]; simp
theorem flatN_le (l : List Vl) : (l.flatMap Vl.n).length ≤ Vl.tots l := by
 induction l with
 | nil => simp [Vl.tots]
 | cons a r ih => simp only [List.flatMap_cons, List.length_append, Vl.tots]; have := Vl.tot_def a; omega
theorem flatS_le (l : List Vl) : (l.flatMap Vl.s).length ≤ Vl.tots l := by
 induction l with
 | nil => simp [Vl.tots]
 | cons a r ih => simp only [List.flatMap_cons, List.length_append, Vl.tots]; have := Vl.tot_def a; omega
theorem i64s_app (a b : List Int) : i64s (a ++ b) = i64s a ++ i64s b := by simp [i64s]
theorem strs_app (a b : List ByteArray) : strs (a ++ b) = strs a ++ strs b := by simp [strs]
def Grow (w1 : World) (l : List Vl) (t : Int) (j : Nat) (wr : World) : Prop := ∃ N nc S sc, wr.heap[w1.heap.size]? = some (.cells #[.int .i64 t, .slice N ((l.take j).flatMap Vl.n).length nc, .slice S ((l.take j).flatMap Vl.s).length sc, .slice none 0 0] 26 (0, 0)) ∧
 wr.ownsRow (w1.heap.size + 1) 2 1 (.slice N ((l.take j).flatMap Vl.n).length nc) ((l.take j).flatMap Vl.n).length (i64s ((l.take j).flatMap Vl.n)) ∧
 wr.ownsRow (w1.heap.size + 1) 9 1 (.slice S ((l.take j).flatMap Vl.s).length sc) ((l.take j).flatMap Vl.s).length (strs ((l.take j).flatMap Vl.s)) ∧ w1.grownBy wr none
theorem NewV.of_put {v : Vl} {w wa w1 : World} {A1 A2 A3 : Option Addr} {c1 c2 c3 : Nat} {xs : List (List Value)} {f1 f2 f g : List Nat} (hsz : wa.heap.size = w.heap.size + 1) (hg : w.grownBy wa none) (hg1 : wa.grownBy w1 none)
  (hc1 : v.n.length ≤ c1) (o1 : Own w1 f1 A1 (i64s v.n)) (hc2 : v.s.length ≤ c2) (o2 : Own w1 f2 A2 (strs v.s)) (hc3 : v.l.length ≤ c3) (o3 : Own w1 f A3 (List.flatten xs)) (ha : VOwAll w1 v.l xs g)
  (hn : New wa w1 (f1 ++ (f2 ++ (f ++ g)))) :
  NewV v w (.returned (.agg #[.int .i64 v.t, .slice A1 v.n.length c1, .slice A2 v.s.length c2, .slice A3 v.l.length c3])) (put4 w1 w.heap.size 0 (.int .i64 v.t) (.slice A1 v.n.length c1) (.slice A2 v.s.length c2) (.slice A3 v.l.length c3)) := by
 have s1 := hg1.size
 have hk : ∀ b, b < w1.heap.size → b ≠ w.heap.size → (put4 w1 w.heap.size 0 (.int .i64 v.t) (.slice A1 v.n.length c1) (.slice A2 v.s.length c2) (.slice A3 v.l.length c3)).heap[b]? = w1.heap[b]? := fun b hb hne => (put4_gb w1 w.heap.size 0 _ _ _ _).block b hb (by intro e; injection e with e; exact hne e)
 have hs4 := put4_size w1 w.heap.size 0 (.int .i64 v.t) (.slice A1 v.n.length c1) (.slice A2 v.s.length c2) (.slice A3 v.l.length c3)
 have hb : ∀ b ∈ f1 ++ (f2 ++ (f ++ g)), (put4 w1 w.heap.size 0 (.int .i64 v.t) (.slice A1 v.n.length c1) (.slice A2 v.s.length c2) (.slice A3 v.l.length c3)).heap[b]? = w1.heap[b]? := fun b hb => by
  have := hn.2 b hb
  exact hk b (by omega) (by omega)
 refine ⟨A1, c1, A2, c2, A3, c3, f1 ++ (f2 ++ (f ++ g)), rfl, VOw.mk_ ⟨hc1, hc2, hc3⟩ (o1.keep fun b h => hb b (by simp [h])) (o2.keep fun b h => hb b (by simp [h])) (o3.keep fun b h => hb b (by simp [h])) (VOwAll.keep _ _ _ ha fun b h => hb b (by simp [h])), ?_, ?_⟩
 ·exact (hn.less (by omega)).more (by omega)
 ·exact gb_trans (gb_trans hg hg1 (.inl rfl)) (put4_gb w1 w.heap.size 0 _ _ _ _) (.inr (.inr ⟨_, rfl, Nat.le_refl _⟩))
theorem Own.blk {w : World} {f : List Nat} {A : Option Addr} {xs : List Value} (h : Own w f A xs) (b : Nat) (hb : b ∈ f) {n c : Nat} : (Value.slice A n c).ownBlock = some b := by
 rcases h with ⟨_, rfl⟩ | ⟨b', t, cur, rfl, rfl, _, _, _⟩
 ·cases hb
 ·obtain rfl := List.mem_singleton.1 hb
  rfl
theorem rows_apart {w : World} {base base' n n' size size' : Nat} {e e' : TypeId} {v v' : Value} {xs xs' : List Value} (h : w.ownsRow base e size v n xs) (h' : w.ownsRow base' e' size' v' n' xs') (hne : e ≠ e') : v.ownBlock = none ∨ v.ownBlock ≠ v'.ownBlock := by
 rcases h'.2 with ⟨rfl, _⟩ | ⟨g', cap', cur', rfl, _, hh', _⟩
 ·rcases h.2 with ⟨rfl, _⟩ | ⟨g, cap, cur, rfl, _⟩
  ·exact .inl rfl
  ·exact .inr (by simp [Value.ownBlock])
 ·exact .inr (own_ne h hh' hne)
end Go.Proofs.YtbmgodmfpoappaaGreat
namespace Go.Proofs.YtbmgodmfpoappaaGreat
open Go.RowKit
attribute [local go_sem ↓] Go.wp_at_zero Go.wp_at_succ
def rAbs (t : Int) : Int := if t < 0 ∧ -5 ≤ t then -t else t
def rAtom (t : Int) : Bool := decide (t < 0) && decide (-5 ≤ t)
def rVec (t : Int) : Bool := decide (1 ≤ t) && decide (t ≤ 5)
def rCol (t : Int) : Bool := rVec t || decide (t = 0)
set_option maxHeartbeats 4000000 in
set_option maxRecDepth 100000 in
theorem rAbs_any (t : Int) (w : World) : Calls Tryz.prog 54 #[.int .i64 t] w fun e w' => e = .returned (.int .i64 (rAbs t)) ∧ w = w' := by
 by_cases h1 : t < 0
 ·by_cases h2 : -5 ≤ t
  ·have h3 : t = -1 ∨ t = -2 ∨ t = -3 ∨ t = -4 ∨ t = -5 := by omega
   rcases h3 with rfl | rfl | rfl | rfl | rfl <;>
   ·clear h1 h2
    go_enter Tryz.func54, Tryz.ntmps54
    go_wp2_with fail
    go_ret
    exact ⟨rfl, rfl⟩
  ·have HA := hide (show rAbs t = t by unfold rAbs; rw [if_neg (by omega)])
   rw [HA.out]
   have h2' : t < -5 := by omega
   clear h2
   go_enter Tryz.func54, Tryz.ntmps54
   go_wp2_with fail
   go_ret
   exact ⟨rfl, rfl⟩
 ·have HA := hide (show rAbs t = t by unfold rAbs; rw [if_neg (by omega)])
  rw [HA.out]
  have h2' : 0 ≤ t := by omega
  clear h1
  go_enter Tryz.func54, Tryz.ntmps54
  go_wp2_with fail
  go_ret
  exact ⟨rfl, rfl⟩
set_option maxHeartbeats 4000000 in
set_option maxRecDepth 100000 in
theorem rAtom_any (t : Int) (c1 c2 c3 : Value) (w : World) : Calls Tryz.prog 33 #[.agg #[.int .i64 t, c1, c2, c3]] w fun e w' => e = .returned (.bool (rAtom t)) ∧ w.grownBy w' none := by
 obtain ⟨wa, hwa⟩ : ∃ wa, wa = w.alloc (.cells #[.int .i64 t, c1, c2, c3] 26) := ⟨_, rfl⟩
 have hc := (C4.box w (.int .i64 t) c1 c2 c3 26).c0
 rw [← hwa] at hc
 have HG := hide (show w.grownBy wa none by rw [hwa]; exact gb_alloc (gb_refl w none) _)
 have HWE := hide hwa
 clear hwa
 by_cases h1 : t < 0
 ·by_cases h2 : -5 ≤ t
  ·have HA := hide (show rAtom t = true by unfold rAtom; simp [h1, h2])
   rw [HA.out]
   go_enter Tryz.func33, Tryz.ntmps33
   go_wp2_with fail
   go_ret
   exact ⟨ret_b (by simp), by have := HG.out; rwa [HWE.out] at this⟩
  ·have HA := hide (show rAtom t = false by unfold rAtom; simp [h2])
   have h2' : t < -5 := by omega
   rw [HA.out]
   clear h2
   go_enter Tryz.func33, Tryz.ntmps33
   go_wp2_with fail
   go_ret
   exact ⟨ret_b (by simp; try omega), by have := HG.out; rwa [HWE.out] at this⟩
 ·have HA := hide (show rAtom t = false by unfold rAtom; simp [h1])
  have h1' : 0 ≤ t := by omega
  rw [HA.out]
  clear h1
  go_enter Tryz.func33, Tryz.ntmps33
  go_wp2_with fail
  go_ret
  exact ⟨ret_b (by simp), by have := HG.out; rwa [HWE.out] at this⟩
set_option maxHeartbeats 4000000 in
set_option maxRecDepth 100000 in
theorem rVec_any (t : Int) (c1 c2 c3 : Value) (w : World) : Calls Tryz.prog 69 #[.agg #[.int .i64 t, c1, c2, c3]] w fun e w' => e = .returned (.bool (rVec t)) ∧ w.grownBy w' none := by
 obtain ⟨wa, hwa⟩ : ∃ wa, wa = w.alloc (.cells #[.int .i64 t, c1, c2, c3] 26) := ⟨_, rfl⟩
 have hc := (C4.box w (.int .i64 t) c1 c2 c3 26).c0
 rw [← hwa] at hc
 have HG := hide (show w.grownBy wa none by rw [hwa]; exact gb_alloc (gb_refl w none) _)
 have HWE := hide hwa
 clear hwa
 by_cases h1 : 1 ≤ t
 ·by_cases h2 : t ≤ 5
  ·have HA := hide (show rVec t = true by unfold rVec; simp [h1, h2])
   rw [HA.out]
   go_enter Tryz.func69, Tryz.ntmps69
   go_wp2_with fail
   go_ret
   exact ⟨ret_b (by simp), by have := HG.out; rwa [HWE.out] at this⟩
  ·have HA := hide (show rVec t = false by unfold rVec; simp [h2])
   have h2' : 5 < t := by omega
   rw [HA.out]
   clear h2
   go_enter Tryz.func69, Tryz.ntmps69
   go_wp2_with fail
   go_ret
   exact ⟨ret_b (by simp; try omega), by have := HG.out; rwa [HWE.out] at this⟩
 ·have HA := hide (show rVec t = false by unfold rVec; simp [h1])
  have h1' : t < 1 := by omega
  rw [HA.out]
  clear h1
  go_enter Tryz.func69, Tryz.ntmps69
  go_wp2_with fail
  go_ret
  exact ⟨ret_b (by simp), by have := HG.out; rwa [HWE.out] at this⟩
end Go.Proofs.YtbmgodmfpoappaaGreat
/- The document's own column, Count, fields. -/
namespace Go.Proofs.YtbmgodmfpoappaaGreat
open Go.RowKit
attribute [local go_sem ↓] Go.wp_at_zero Go.wp_at_succ
set_option maxHeartbeats 4000000 in
set_option maxRecDepth 100000 in
theorem rCol_any (t : Int) (c1 c2 c3 : Value) (w : World) : Calls Tryz.prog 115 #[.agg #[.int .i64 t, c1, c2, c3]] w fun e w' => e = .returned (.bool (rCol t)) ∧ w.grownBy w' none := by
 obtain ⟨wa, hwa⟩ : ∃ wa, wa = w.alloc (.cells #[.int .i64 t, c1, c2, c3] 26) := ⟨_, rfl⟩
 have hc := C4.box w (.int .i64 t) c1 c2 c3 26
 rw [← hwa] at hc
 have b0 : wa.cell? ⟨w.heap.size, 0, none⟩ = some (.int .i64 t) := hc.c0
 have b1 : wa.cell? ⟨w.heap.size, 1, none⟩ = some c1 := hc.c1
 have b2 : wa.cell? ⟨w.heap.size, 2, none⟩ = some c2 := hc.c2
 have b3 : wa.cell? ⟨w.heap.size, 3, none⟩ = some c3 := hc.c3
 have HG := hide (show w.grownBy wa none by rw [hwa]; exact gb_alloc (gb_refl w none) _)
 have HWE := hide hwa
 clear hwa hc
 have HV := hide (fun w2 => rVec_any t c1 c2 c3 w2)
 cases hv : rVec t
 ·rw [hv] at HV
  by_cases h0 : t = 0
  ·have HA := hide (show rCol t = true by unfold rCol; simp [h0])
   rw [HA.out]
   have e0 := int_beq_t h0
   clear h0 hv HA
   go_enter Tryz.func115, Tryz.ntmps115
   go_wp2_with (go_at_call 69; rw [← HWE.out]; refine (HV.out _).mono ?_; rintro e w1 ⟨rfl, hg1⟩; have b0 := cell_gb b0 hg1; have HG1 := hide hg1; clear hg1)
   go_ret
   exact ⟨ret_b (by simp), gb_trans HG.out HG1.out (.inl rfl)⟩
  ·have HA := hide (show rCol t = false by unfold rCol; simp [hv, h0])
   rw [HA.out]
   have e0 := int_beq_f h0
   clear h0 hv HA
   go_enter Tryz.func115, Tryz.ntmps115
   go_wp2_with (go_at_call 69; rw [← HWE.out]; refine (HV.out _).mono ?_; rintro e w1 ⟨rfl, hg1⟩; have b0 := cell_gb b0 hg1; have HG1 := hide hg1; clear hg1)
   go_ret
   exact ⟨ret_b (by simp), gb_trans HG.out HG1.out (.inl rfl)⟩
 ·rw [hv] at HV
  have HA := hide (show rCol t = true by unfold rCol; simp [hv])
  rw [HA.out]
  clear hv HA
  go_enter Tryz.func115, Tryz.ntmps115
  go_wp2_with (go_at_call 69; rw [← HWE.out]; refine (HV.out _).mono ?_; rintro e w1 ⟨rfl, hg1⟩; have b0 := cell_gb b0 hg1; have HG1 := hide hg1; clear hg1)
  go_ret
  exact ⟨ret_b (by simp), gb_trans HG.out HG1.out (.inl rfl)⟩
set_option maxHeartbeats 8000000 in
set_option maxRecDepth 100000 in
theorem rCount_d (d : Nat) : ∀ (v : Vl) (w : World) (B : Nat) (nA : Option Addr) (nc : Nat) (sA : Option Addr) (sc : Nat) (lA : Option Addr) (lc : Nat), v.depth ≤ d → v.tot ≤ 1200000000 → B ≤ w.heap.size → VB w B v nA nc sA sc lA lc →
  Calls Tryz.prog 46 #[.agg #[.int .i64 v.t, .slice nA v.n.length nc, .slice sA v.s.length sc, .slice lA v.l.length lc]] w fun e w' => e = .returned (.int .i64 (v.count : Nat)) ∧ w.grownBy w' none := by
 induction d with
 | zero => intro v; intros; rw [Vl.depth_def] at *; omega
 | succ d ih =>
  intro v w B nA nc sA sc lA lc hd ht hB hv
  obtain ⟨l1, l2, l3, l4⟩ := Vl.lens v ht
  obtain ⟨wa, hwa⟩ : ∃ wa, wa = w.alloc (.cells #[.int .i64 v.t, .slice nA v.n.length nc, .slice sA v.s.length sc, .slice lA v.l.length lc] 26) := ⟨_, rfl⟩
  have hg : w.grownBy wa none := by rw [hwa]; exact gb_alloc (gb_refl w none) _
  have hc := C4.box w (.int .i64 v.t) (.slice nA v.n.length nc) (.slice sA v.s.length sc) (.slice lA v.l.length lc) 26
  rw [← hwa] at hc
  have b0 : wa.cell? ⟨w.heap.size, 0, none⟩ = some (.int .i64 v.t) := hc.c0
  have b1 : wa.cell? ⟨w.heap.size, 1, none⟩ = some (.slice nA v.n.length nc) := hc.c1
  have b2 : wa.cell? ⟨w.heap.size, 2, none⟩ = some (.slice sA v.s.length sc) := hc.c2
  have b3 : wa.cell? ⟨w.heap.size, 3, none⟩ = some (.slice lA v.l.length lc) := hc.c3
  have IH := hide ih
  have HD := hide hd
  have HT := hide ht
  have hbw := Nat.le_trans hB hg.size
  have HV := hide (hv.gb hg hB)
  have HBW := hide hbw
  have HC := hide (Vl.count_def v)
  have HG := hide hg
  have HWE := hide hwa
  have HVEC := hide (fun w2 => rVec_any v.t (.slice nA v.n.length nc) (.slice sA v.s.length sc) (.slice lA v.l.length lc) w2)
  have FIN := hide (show w.grownBy (w.alloc (.cells #[.int .i64 v.t, .slice nA v.n.length nc, .slice sA v.s.length sc, .slice lA v.l.length lc] 26)) none from gb_alloc (gb_refl w none) _)
  clear ih hd ht hB hv hg hwa hc hbw
  by_cases h2 : v.t = 3
  ·have e2 := int_beq_t h2
   rw [if_neg (by omega), if_pos h2] at HC
   rw [HC.out]
   clear h2
   go_enter Tryz.func46, Tryz.ntmps46
   go_wp2_with fail
   rw [← HWE.out]
   go_wp2_with fail
   go_ret
   exact ⟨rfl, HG.out⟩
  have e2 := int_beq_f h2
  by_cases h1 : v.t = 1 ∨ v.t = 2 ∨ v.t = 4 ∨ v.t = 5
  ·rw [if_pos h1] at HC
   rw [HC.out]
   have hvec : rVec v.t = true := by unfold rVec; rcases h1 with h | h | h | h <;> rw [h] <;> rfl
   rw [hvec] at HVEC
   clear h1 h2 hvec
   go_enter Tryz.func46, Tryz.ntmps46
   go_wp2_with (go_at_call 69; rw [← HWE.out]; refine (HVEC.out _).mono ?_; rintro e w1 ⟨rfl, hg1⟩; have b0 := cell_gb b0 hg1; have b1 := cell_gb b1 hg1; have b3 := cell_gb b3 hg1; have HG1 := hide hg1; clear hg1)
   go_ret
   exact ⟨rfl, gb_trans HG.out HG1.out (.inl rfl)⟩
  have hvec : rVec v.t = false := by
   unfold rVec
   simp only [not_or] at h1
   by_cases ha : 1 ≤ v.t
   ·by_cases hb : v.t ≤ 5
    ·omega
    ·simp [hb]
   ·simp [ha]
  rw [hvec] at HVEC
  rw [if_neg h1, if_neg h2] at HC
  clear h1 h2 hvec
  by_cases h3 : v.t = 0
  ·have e3 := int_beq_t h3
   rw [if_pos h3] at HC
   rw [HC.out]
   clear h3
   go_enter Tryz.func46, Tryz.ntmps46
   go_wp2_with (go_at_call 69; rw [← HWE.out]; refine (HVEC.out _).mono ?_; rintro e w1 ⟨rfl, hg1⟩; have b0 := cell_gb b0 hg1; have b1 := cell_gb b1 hg1; have b3 := cell_gb b3 hg1; have HG1 := hide hg1; clear hg1)
   go_ret
   exact ⟨rfl, gb_trans HG.out HG1.out (.inl rfl)⟩
  have e3 := int_beq_f h3
  rw [if_neg h3] at HC
  clear h3
  by_cases h4 : v.t = 98 ∨ v.t = 99
  ·rw [if_pos h4] at HC
   by_cases h0 : 0 < v.l.length
   ·rw [Vl.countH_at h0] at HC
    obtain ⟨b, o, xA, xc, yA, yc, zA, zc, hlA, hbB, hc4, hvb⟩ := HV.out.l.at_ h0
    subst hlA
    obtain ⟨d0, d1, d2, d3⟩ := hc4
    have d0' : wa.cell? ⟨b, o, none⟩ = some (.int .i64 v.l[0].t) := by simpa using d0
    have d1' : wa.cell? ⟨b, o + 1, none⟩ = some (.slice xA v.l[0].n.length xc) := by simpa using d1
    have d2' : wa.cell? ⟨b, o + 2, none⟩ = some (.slice yA v.l[0].s.length yc) := by simpa using d2
    have d3' : wa.cell? ⟨b, o + 3, none⟩ = some (.slice zA v.l[0].l.length zc) := by simpa using d3
    have HCALL := hide (fun w2 (k : wa.grownBy w2 none) => IH.out v.l[0] w2 B xA xc yA yc zA zc (Vl.depth_part HD.out (List.getElem_mem h0)) (Vl.tot_part HT.out (List.getElem_mem h0)) (Nat.le_trans HBW.out k.size) (hvb.gb k HBW.out))
    have h01 : (0 : Int) < (v.l.length : Int) := by omega
    have HE := hide (congrArg (fun n : Nat => Ending.returned (Value.int .i64 (n : Int))) HC.out)
    clear hvb d0 d1 d2 d3 HC
    rcases h4 with h4 | h4
    ·have e4 := int_beq_t h4
     clear h4
     go_enter Tryz.func46, Tryz.ntmps46
     go_wp2_with (first
      | (go_at_call 69; rw [← HWE.out]; refine (HVEC.out _).mono ?_; rintro e w1 ⟨rfl, hg1⟩; have b0 := cell_gb b0 hg1; have b3 := cell_gb b3 hg1; have d0' := cell_gb d0' hg1; have d1' := cell_gb d1' hg1; have d2' := cell_gb d2' hg1; have d3' := cell_gb d3' hg1; have HG1 := hide hg1; clear hg1)
      | (go_at_call 46; refine (HCALL.out w1 HG1.out).mono ?_; rintro e w2 ⟨rfl, hg2⟩; have HG2 := hide (gb_trans HG1.out hg2 (.inl rfl)); clear hg2))
     go_ret
     exact ⟨HE.out.symm, gb_trans HG.out HG2.out (.inl rfl)⟩
    ·have e4 : (v.t == 98) = false := by rw [h4]; rfl
     have e5 := int_beq_t h4
     clear h4
     go_enter Tryz.func46, Tryz.ntmps46
     go_wp2_with (first
      | (go_at_call 69; rw [← HWE.out]; refine (HVEC.out _).mono ?_; rintro e w1 ⟨rfl, hg1⟩; have b0 := cell_gb b0 hg1; have b3 := cell_gb b3 hg1; have d0' := cell_gb d0' hg1; have d1' := cell_gb d1' hg1; have d2' := cell_gb d2' hg1; have d3' := cell_gb d3' hg1; have HG1 := hide hg1; clear hg1)
      | (go_at_call 46; refine (HCALL.out w1 HG1.out).mono ?_; rintro e w2 ⟨rfl, hg2⟩; have HG2 := hide (gb_trans HG1.out hg2 (.inl rfl)); clear hg2))
     go_ret
     exact ⟨HE.out.symm, gb_trans HG.out HG2.out (.inl rfl)⟩
   ·have hl0 : v.l.length = 0 := by omega
    have HE : Hid (v.count = 1) := hide (by rw [HC.out, List.eq_nil_of_length_eq_zero hl0]; rfl)
    have h00 : ¬ (0 : Int) < (v.l.length : Int) := by omega
    clear hl0 h0 HC
    rw [HE.out]
    rcases h4 with h4 | h4
    ·have e4 := int_beq_t h4
     clear h4
     go_enter Tryz.func46, Tryz.ntmps46
     go_wp2_with (go_at_call 69; rw [← HWE.out]; refine (HVEC.out _).mono ?_; rintro e w1 ⟨rfl, hg1⟩; have b0 := cell_gb b0 hg1; have b1 := cell_gb b1 hg1; have b3 := cell_gb b3 hg1; have HG1 := hide hg1; clear hg1)
     go_ret
     exact ⟨rfl, gb_trans HG.out HG1.out (.inl rfl)⟩
    ·have e4 : (v.t == 98) = false := by rw [h4]; rfl
     have e5 := int_beq_t h4
     clear h4
     go_enter Tryz.func46, Tryz.ntmps46
     go_wp2_with (go_at_call 69; rw [← HWE.out]; refine (HVEC.out _).mono ?_; rintro e w1 ⟨rfl, hg1⟩; have b0 := cell_gb b0 hg1; have b1 := cell_gb b1 hg1; have b3 := cell_gb b3 hg1; have HG1 := hide hg1; clear hg1)
     go_ret
     exact ⟨rfl, gb_trans HG.out HG1.out (.inl rfl)⟩
  ·rw [if_neg h4] at HC
   rw [HC.out]
   simp only [not_or] at h4
   have e4 := int_beq_f h4.1
   have e5 := int_beq_f h4.2
   clear h4
   go_enter Tryz.func46, Tryz.ntmps46
   go_wp2_with (go_at_call 69; rw [← HWE.out]; refine (HVEC.out _).mono ?_; rintro e w1 ⟨rfl, hg1⟩; have b0 := cell_gb b0 hg1; have b1 := cell_gb b1 hg1; have b3 := cell_gb b3 hg1; have HG1 := hide hg1; clear hg1)
   go_ret
   exact ⟨rfl, gb_trans HG.out HG1.out (.inl rfl)⟩
theorem rCount_any (v : Vl) (w : World) (B : Nat) (nA : Option Addr) (nc : Nat) (sA : Option Addr) (sc : Nat) (lA : Option Addr) (lc : Nat) (ht : v.tot ≤ 1200000000) (hB : B ≤ w.heap.size) (h : VB w B v nA nc sA sc lA lc) :
  Calls Tryz.prog 46 #[.agg #[.int .i64 v.t, .slice nA v.n.length nc, .slice sA v.s.length sc, .slice lA v.l.length lc]] w fun e w' => e = .returned (.int .i64 (v.count : Nat)) ∧ w.grownBy w' none := rCount_d v.depth v w B nA nc sA sc lA lc (Nat.le_refl _) ht hB h
end Go.Proofs.YtbmgodmfpoappaaGreat
