/-
  The document's own list.
-/
import Derived.Test.YtbmgodmfpoappaaGreatQWj
import Derived.Deep.RegionHeld2
import Derived.Deep.RegionHeld3
import Derived.Deep.DrawnRows
namespace Go.Proofs.YtbmgodmfpoappaaGreat
open Go.RowKit
attribute [local go_sem ↓] Go.wp_at_zero Go.wp_at_succ
def alikeV (l : List Vl) (m : Int) (j : Nat) : Bool := decide (0 < l.length) && (l.take j).all fun x => rAtom x.t && decide (x.t = m)
theorem alikeV_succ {l : List Vl} {m : Int} {j : Nat} (h : j < l.length) : alikeV l m (j + 1) = (alikeV l m j && (rAtom l[j].t && decide (l[j].t = m))) := by
 unfold alikeV
 rw [List.take_succ_eq_append_getElem h, List.all_append]
 simp [Bool.and_assoc]
def headT (l : List Vl) : Int := match l with | [] => 0 | x :: _ => x.t
theorem headT_at {l : List Vl} (h : 0 < l.length) : headT l = l[0].t := by
 cases l with
 | nil => simp at h
 | cons => rfl
def noNil (l : List Vl) : Bool := l.all fun x => decide (x.t ≠ 101)
def listV (v : Vl) : Bool := noNil v.l && !alikeV v.l (headT v.l) v.l.length
set_option maxHeartbeats 8000000 in
set_option maxRecDepth 100000 in
theorem rList_any (v : Vl) (w : World) (B : Nat) (nA : Option Addr) (nc : Nat) (sA : Option Addr) (sc : Nat) (lA : Option Addr) (lc : Nat) (ht : v.tot ≤ 1200000000) (hB : B ≤ w.heap.size) (h : VB w B v nA nc sA sc lA lc) :
  Calls Tryz.prog 113 #[.agg #[.int .i64 v.t, .slice nA v.n.length nc, .slice sA v.s.length sc, .slice lA v.l.length lc]] w fun e w' => e = .returned (.bool (listV v)) ∧ w.grownBy w' none := by
 obtain ⟨l1, l2, l3, l4⟩ := Vl.lens v ht
 obtain ⟨wa, hwa⟩ : ∃ wa, wa = w.alloc (.cells #[.int .i64 v.t, .slice nA v.n.length nc, .slice sA v.s.length sc, .slice lA v.l.length lc] 26) := ⟨_, rfl⟩
 have hg : w.grownBy wa none := by rw [hwa]; exact gb_alloc (gb_refl w none) _
 have hc := C4.box w (.int .i64 v.t) (.slice nA v.n.length nc) (.slice sA v.s.length sc) (.slice lA v.l.length lc) 26
 rw [← hwa] at hc
 have b0 : wa.cell? ⟨w.heap.size, 0, none⟩ = some (.int .i64 v.t) := hc.c0
 have b1 : wa.cell? ⟨w.heap.size, 1, none⟩ = some (.slice nA v.n.length nc) := hc.c1
 have b2 : wa.cell? ⟨w.heap.size, 2, none⟩ = some (.slice sA v.s.length sc) := hc.c2
 have b3 : wa.cell? ⟨w.heap.size, 3, none⟩ = some (.slice lA v.l.length lc) := hc.c3
 have hbw := Nat.le_trans hB hg.size
 have HV := hide (h.gb hg hB)
 have HBW := hide hbw
 have HG := hide hg
 have HWE := hide hwa
 have HD := hide (show listV v = (noNil v.l && !alikeV v.l (headT v.l) v.l.length) from rfl)
 have HM0 := hide (fun h0 : 0 < v.l.length => headT_at h0)
 have HA0 := hide (show alikeV v.l (headT v.l) 0 = decide (0 < v.l.length) by unfold alikeV; simp)
 clear ht hB h hg hwa hc hbw
 generalize headT v.l = m at *
 go_enter Tryz.func113, Tryz.ntmps113
 go_wp2_with fail
 rw [← HWE.out]
 go_wp2_with fail
 go_loopw [3, 4] (fun a i wr => ∃ j : Nat, i = .int .i64 (j : Int) ∧ j ≤ v.l.length ∧ a = .bool (alikeV v.l m j) ∧ Hid (noNil (v.l.take j) = true) ∧ wa.grownBy wr none) (fun _ i _ => v.l.length - (intOf i).toNat)
 case atStart => exact ⟨0, rfl, Nat.zero_le _, by rw [HA0.out], hide rfl, gb_refl wa none⟩
 case round =>
  obtain ⟨j, rfl, hj, rfl, HNN, hgr⟩ := hrel
  have b3 := cell_gb b3 hgr
  have HGR := hide hgr
  by_cases hlt : j < v.l.length
  ·have hlt1 : (j : Int) < (v.l.length : Int) := by omega
   have h0 : 0 < v.l.length := by omega
   have h01 : (0 : Int) < (v.l.length : Int) := by omega
   obtain ⟨q, o, xA, xc, yA, yc, zA, zc, hA, hqB, hc4, hvb⟩ := HV.out.l.at_ hlt
   obtain ⟨q', o', _, _, _, _, _, _, hA', _, hc4', _⟩ := HV.out.l.at_ h0
   subst hA
   cases hA'
   obtain ⟨d0, d1, d2, d3⟩ := hc4.gb hgr
   have z0 : wr.cell? ⟨q, o, none⟩ = some (.int .i64 m) := by rw [HM0.out h0]; simpa using (hc4'.gb hgr).c0
   have HAT := hide (fun w2 => rAtom_any v.l[j].t (.slice xA v.l[j].n.length xc) (.slice yA v.l[j].s.length yc) (.slice zA v.l[j].l.length zc) w2)
   have HNX := hide (alikeV_succ (m := m) hlt)
   have HTK := hide (show v.l.take (j + 1) = v.l.take j ++ [v.l[j]] from List.take_succ_eq_append_getElem hlt)
   clear hc4 hc4' hvb hgr
   by_cases h101 : v.l[j].t = 101
   ·have e101 := int_beq_t h101
    have HB := hide (show listV v = false by
     rw [HD.out, show noNil v.l = false by unfold noNil; rw [List.all_eq_false]; exact ⟨v.l[j], List.getElem_mem hlt, by simp [h101]⟩]; rfl)
    clear h101
    go_wp2_with fail
    go_ret
    exact ⟨ret_b HB.out.symm, gb_trans HG.out HGR.out (.inl rfl)⟩
   ·have e101 := int_beq_f h101
    have HN2 := hide (show noNil (v.l.take (j + 1)) = true by rw [HTK.out]; have h1 := HNN.out; unfold noNil at h1 ⊢; rw [List.all_append, h1]; simp [h101])
    clear h101
    cases hat : rAtom v.l[j].t
    ·rw [hat] at HAT HNX
     clear hat
     go_wp2_with fail
     refine wp_region_held_drew (S := (fun w' => w'.cell? ⟨w.heap.size, 3, none⟩ = some (.slice (some ⟨q, o, none⟩) v.l.length lc) ∧ w'.cell? ⟨q, o + j * 4, none⟩ = some (.int .i64 v.l[j].t) ∧ w'.cell? ⟨q, o + j * 4 + 1, none⟩ = some (.slice xA v.l[j].n.length xc) ∧ w'.cell? ⟨q, o + j * 4 + 2, none⟩ = some (.slice yA v.l[j].s.length yc) ∧ w'.cell? ⟨q, o + j * 4 + 3, none⟩ = some (.slice zA v.l[j].l.length zc) ∧ w'.cell? ⟨q, o, none⟩ = some (.int .i64 m))) (by kernel_rfl) ⟨b3, d0, d1, d2, d3, z0⟩ (fun hHeld => ?_)
     refine wpAnyH_take (i := 0) (oi := _) (v := ?_) rfl (by kernel_rfl) (by kernel_rfl) (by kernel_rfl) (fun _ _ _ h => h) (Or.inl ⟨by kernel_rfl, ?_⟩) (by assumption) ?_
     rotate_left
     ·(intro w' hSw; (try dsimp only at hSw); go_simp; (try with_reducible rfl))
     (try simp only [Act.put, List.getElem_toArray, List.getElem_cons_zero, List.setIfInBounds_toArray, List.set_cons_zero, List.set_cons_succ])
     refine wpAnyH_take (i := 1) (oi := _) (v := ?_) rfl (by kernel_rfl) (by kernel_rfl) (by kernel_rfl) (fun _ _ _ h => h) (Or.inl ⟨by kernel_rfl, ?_⟩) (by assumption) ?_
     rotate_left
     ·(intro w' hSw; (try dsimp only at hSw); go_simp; (try with_reducible rfl))
     (try simp only [Act.put, List.getElem_toArray, List.getElem_cons_zero, List.getElem_cons_succ, List.setIfInBounds_toArray, List.set_cons_zero, List.set_cons_succ])
     refine wpAnyH_take (i := 2) (oi := _) (v := ?_) rfl (by kernel_rfl) (by kernel_rfl) (by kernel_rfl) (fun _ _ _ h => h) (Or.inl ⟨by kernel_rfl, ?_⟩) (by assumption) ?_
     rotate_left
     ·(intro w' hSw; (try dsimp only at hSw); go_simp; (try with_reducible rfl))
     (try simp only [Act.put, List.getElem_toArray, List.getElem_cons_zero, List.getElem_cons_succ, List.setIfInBounds_toArray, List.set_cons_zero, List.set_cons_succ])
     refine wpAnyH_take (i := 3) (oi := _) (v := ?_) rfl (by kernel_rfl) (by kernel_rfl) (by kernel_rfl) (fun _ _ _ h => h) (Or.inl ⟨by kernel_rfl, ?_⟩) (by assumption) ?_
     rotate_left
     ·(intro w' hSw; (try dsimp only at hSw); go_simp; (try with_reducible rfl))
     (try simp only [Act.put, List.getElem_toArray, List.getElem_cons_zero, List.getElem_cons_succ, List.setIfInBounds_toArray, List.set_cons_zero, List.set_cons_succ])
     refine wpAnyH_take (i := 4) (oi := _) (v := ?_) rfl (by kernel_rfl) (by kernel_rfl) (by kernel_rfl) (fun _ _ _ h => h) (Or.inl ⟨by kernel_rfl, ?_⟩) (by assumption) ?_
     rotate_left
     ·(intro w' hSw; (try dsimp only at hSw); go_simp; (try with_reducible rfl))
     (try simp only [Act.put, List.getElem_toArray, List.getElem_cons_zero, List.getElem_cons_succ, List.setIfInBounds_toArray, List.set_cons_zero, List.set_cons_succ])
     refine wpAnyH_ready (rs := [5]) (by kernel_rfl) (by simp) ?_
     refine AllReadyH.cons (o := _) rfl (fun K hK => ?_) AllReadyH.nil
     go_simp
     go_at_call 33
     refine (HAT.out _).mono ?_
     rintro e w6 ⟨rfl, hg6⟩
     have HG6 := hide (show wr.grownBy w6 none from gb_trans (gb_drew (gb_refl wr none)) hg6 (.inl rfl))
     clear hg6 hHeld
     refine hK.out _ _ ⟨cell_gb b3 HG6.out, cell_gb d0 HG6.out, cell_gb d1 HG6.out, cell_gb d2 HG6.out, cell_gb d3 HG6.out, cell_gb z0 HG6.out⟩ (fun hHeld => ?_)
     clear hK K
     (try simp only [Act.put, List.getElem_toArray, List.getElem_cons_zero, List.getElem_cons_succ, List.setIfInBounds_toArray, List.set_cons_zero, List.set_cons_succ])
     refine wpAnyH_take (i := 6) (oi := _) (v := ?_) rfl (by kernel_rfl) (by kernel_rfl) (by kernel_rfl) (fun _ _ _ h => h) (Or.inl ⟨by kernel_rfl, ?_⟩) (by assumption) ?_
     rotate_left
     ·(intro w' hSw; (try dsimp only at hSw); go_simp; (try with_reducible rfl))
     (try simp only [Act.put, List.getElem_toArray, List.getElem_cons_zero, List.getElem_cons_succ, List.setIfInBounds_toArray, List.set_cons_zero, List.set_cons_succ])
     refine wpAnyH_take (i := 7) (oi := _) (v := ?_) rfl (by kernel_rfl) (by kernel_rfl) (by kernel_rfl) (fun _ _ _ h => h) (Or.inl ⟨by kernel_rfl, ?_⟩) (by assumption) ?_
     rotate_left
     ·(intro w' hSw; (try dsimp only at hSw); go_simp; (try with_reducible rfl))
     (try simp only [Act.put, List.getElem_toArray, List.getElem_cons_zero, List.getElem_cons_succ, List.setIfInBounds_toArray, List.set_cons_zero, List.set_cons_succ])
     refine wpAnyH_take (i := 8) (oi := _) (v := undef) rfl (by kernel_rfl) (by kernel_rfl) (by kernel_rfl) (fun _ _ _ h => h) (Or.inr ⟨by kernel_rfl, rfl⟩) (by assumption) ?_
     (try simp only [Act.put, List.getElem_toArray, List.getElem_cons_zero, List.getElem_cons_succ, List.setIfInBounds_toArray, List.set_cons_zero, List.set_cons_succ])
     refine wpAnyH_take (i := 9) (oi := _) (v := undef) rfl (by kernel_rfl) (by kernel_rfl) (by kernel_rfl) (fun _ _ _ h => h) (Or.inr ⟨by kernel_rfl, rfl⟩) (by assumption) ?_
     (try simp only [Act.put, List.getElem_toArray, List.getElem_cons_zero, List.getElem_cons_succ, List.setIfInBounds_toArray, List.set_cons_zero, List.set_cons_succ])
     refine wpAnyH_take (i := 10) (oi := _) (v := undef) rfl (by kernel_rfl) (by kernel_rfl) (by kernel_rfl) (fun _ _ _ h => h) (Or.inr ⟨by kernel_rfl, rfl⟩) (by assumption) ?_
     (try simp only [Act.put, List.getElem_toArray, List.getElem_cons_zero, List.getElem_cons_succ, List.setIfInBounds_toArray, List.set_cons_zero, List.set_cons_succ])
     refine wpAnyH_take (i := 11) (oi := _) (v := undef) rfl (by kernel_rfl) (by kernel_rfl) (by kernel_rfl) (fun _ _ _ h => h) (Or.inr ⟨by kernel_rfl, rfl⟩) (by assumption) ?_
     (try simp only [Act.put, List.getElem_toArray, List.getElem_cons_zero, List.getElem_cons_succ, List.setIfInBounds_toArray, List.set_cons_zero, List.set_cons_succ])
     refine wpAnyH_take (i := 12) (oi := _) (v := undef) rfl (by kernel_rfl) (by kernel_rfl) (by kernel_rfl) (fun _ _ _ h => h) (Or.inr ⟨by kernel_rfl, rfl⟩) (by assumption) ?_
     (try simp only [Act.put, List.getElem_toArray, List.getElem_cons_zero, List.getElem_cons_succ, List.setIfInBounds_toArray, List.set_cons_zero, List.set_cons_succ])
     refine wpAnyH_take (i := 13) (oi := _) (v := undef) rfl (by kernel_rfl) (by kernel_rfl) (by kernel_rfl) (fun _ _ _ h => h) (Or.inr ⟨by kernel_rfl, rfl⟩) (by assumption) ?_
     (try simp only [Act.put, List.getElem_toArray, List.getElem_cons_zero, List.getElem_cons_succ, List.setIfInBounds_toArray, List.set_cons_zero, List.set_cons_succ])
     refine wpAnyH_take (i := 14) (oi := _) (v := undef) rfl (by kernel_rfl) (by kernel_rfl) (by kernel_rfl) (fun _ _ _ h => h) (Or.inr ⟨by kernel_rfl, rfl⟩) (by assumption) ?_
     (try simp only [Act.put, List.getElem_toArray, List.getElem_cons_zero, List.getElem_cons_succ, List.setIfInBounds_toArray, List.set_cons_zero, List.set_cons_succ])
     refine wpAnyH_take (i := 15) (oi := _) (v := undef) rfl (by kernel_rfl) (by kernel_rfl) (by kernel_rfl) (fun _ _ _ h => h) (Or.inr ⟨by kernel_rfl, rfl⟩) (by assumption) ?_
     (try simp only [Act.put, List.getElem_toArray, List.getElem_cons_zero, List.getElem_cons_succ, List.setIfInBounds_toArray, List.set_cons_zero, List.set_cons_succ])
     refine wpAnyH_take (i := 16) (oi := _) (v := undef) rfl (by kernel_rfl) (by kernel_rfl) (by kernel_rfl) (fun _ _ _ h => h) (Or.inr ⟨by kernel_rfl, rfl⟩) (by assumption) ?_
     (try simp only [Act.put, List.getElem_toArray, List.getElem_cons_zero, List.getElem_cons_succ, List.setIfInBounds_toArray, List.set_cons_zero, List.set_cons_succ])
     refine wpAnyH_take (i := 17) (oi := _) (v := undef) rfl (by kernel_rfl) (by kernel_rfl) (by kernel_rfl) (fun _ _ _ h => h) (Or.inr ⟨by kernel_rfl, rfl⟩) (by assumption) ?_
     (try simp only [Act.put, List.getElem_toArray, List.getElem_cons_zero, List.getElem_cons_succ, List.setIfInBounds_toArray, List.set_cons_zero, List.set_cons_succ])
     refine wpAnyH_take (i := 18) (oi := _) (v := undef) rfl (by kernel_rfl) (by kernel_rfl) (by kernel_rfl) (fun _ _ _ h => h) (Or.inr ⟨by kernel_rfl, rfl⟩) (by assumption) ?_
     (try simp only [Act.put, List.getElem_toArray, List.getElem_cons_zero, List.getElem_cons_succ, List.setIfInBounds_toArray, List.set_cons_zero, List.set_cons_succ])
     refine wpAnyH_take (i := 19) (oi := _) (v := undef) rfl (by kernel_rfl) (by kernel_rfl) (by kernel_rfl) (fun _ _ _ h => h) (Or.inr ⟨by kernel_rfl, rfl⟩) (by assumption) ?_
     (try simp only [Act.put, List.getElem_toArray, List.getElem_cons_zero, List.getElem_cons_succ, List.setIfInBounds_toArray, List.set_cons_zero, List.set_cons_succ])
     refine wpAnyH_take (i := 20) (oi := _) (v := ?_) rfl (by kernel_rfl) (by kernel_rfl) (by kernel_rfl) (fun _ _ _ h => h) (Or.inl ⟨by kernel_rfl, ?_⟩) (by assumption) ?_
     rotate_left
     ·(intro w' hSw; (try dsimp only at hSw); go_simp; (try with_reducible rfl))
     (try simp only [Act.put, List.getElem_toArray, List.getElem_cons_zero, List.getElem_cons_succ, List.setIfInBounds_toArray, List.set_cons_zero, List.set_cons_succ])
     refine wpAnyH_done (by kernel_rfl) ?_ _
     go_wp2_with fail
     go_roundw
     case rel =>
      have hr : ∃ k : Nat, Value.int .i64 ((j : Int) + 1) = .int .i64 (k : Int) ∧ k ≤ v.l.length ∧ Value.bool false = .bool (alikeV v.l m k) ∧ Hid (noNil (v.l.take k) = true) ∧ wa.grownBy w6 none := ⟨j + 1, by go_num, by omega, by rw [HNX.out]; simp, HN2, gb_trans HGR.out HG6.out (.inl rfl)⟩
      rw [show decide (0 < v.l.length) = true from decide_eq_true h0]
      repeat apply Exists.intro
      exact ⟨hr, rfl⟩
     case measure => simp [intOf]; omega
    ·rw [hat] at HAT HNX
     clear hat
     by_cases hm : v.l[j].t = m
     ·rw [decide_eq_true hm] at HNX
      have em := int_bne_t hm
      clear hm
      go_wp2_with fail
      go_region_held3 (fun w' => w'.cell? ⟨w.heap.size, 3, none⟩ = some (.slice (some ⟨q, o, none⟩) v.l.length lc) ∧ w'.cell? ⟨q, o + j * 4, none⟩ = some (.int .i64 v.l[j].t) ∧ w'.cell? ⟨q, o + j * 4 + 1, none⟩ = some (.slice xA v.l[j].n.length xc) ∧ w'.cell? ⟨q, o + j * 4 + 2, none⟩ = some (.slice yA v.l[j].s.length yc) ∧ w'.cell? ⟨q, o + j * 4 + 3, none⟩ = some (.slice zA v.l[j].l.length zc) ∧ w'.cell? ⟨q, o, none⟩ = some (.int .i64 m)) (first | exact ⟨b3, d0, d1, d2, d3, z0⟩ | exact ⟨cell_gb b3 HG6.out, cell_gb d0 HG6.out, cell_gb d1 HG6.out, cell_gb d2 HG6.out, cell_gb d3 HG6.out, cell_gb z0 HG6.out⟩ | go_keep)
      ((go_simp; go_at_call 33; refine (HAT.out _).mono ?_; rintro e w6 ⟨rfl, hg6⟩; have HG6 := hide (show wr.grownBy w6 none from gb_trans (gb_drew (gb_refl wr none)) hg6 (.inl rfl)); clear hg6))
      go_wp2_with fail
      go_roundw
      case rel =>
       have hr : ∃ k : Nat, Value.int .i64 ((j : Int) + 1) = .int .i64 (k : Int) ∧ k ≤ v.l.length ∧ Value.bool (alikeV v.l m j) = .bool (alikeV v.l m k) ∧ Hid (noNil (v.l.take k) = true) ∧ wa.grownBy w6 none := ⟨j + 1, by go_num, by omega, by rw [HNX.out]; simp, HN2, gb_trans HGR.out HG6.out (.inl rfl)⟩
       rw [show decide (0 < v.l.length) = true from decide_eq_true h0]
       repeat apply Exists.intro
       exact ⟨hr, rfl⟩
      case measure => simp [intOf]; omega
     ·rw [decide_eq_false hm] at HNX
      have em := int_bne_f hm
      clear hm
      go_wp2_with fail
      go_region_held3 (fun w' => w'.cell? ⟨w.heap.size, 3, none⟩ = some (.slice (some ⟨q, o, none⟩) v.l.length lc) ∧ w'.cell? ⟨q, o + j * 4, none⟩ = some (.int .i64 v.l[j].t) ∧ w'.cell? ⟨q, o + j * 4 + 1, none⟩ = some (.slice xA v.l[j].n.length xc) ∧ w'.cell? ⟨q, o + j * 4 + 2, none⟩ = some (.slice yA v.l[j].s.length yc) ∧ w'.cell? ⟨q, o + j * 4 + 3, none⟩ = some (.slice zA v.l[j].l.length zc) ∧ w'.cell? ⟨q, o, none⟩ = some (.int .i64 m)) (first | exact ⟨b3, d0, d1, d2, d3, z0⟩ | exact ⟨cell_gb b3 HG6.out, cell_gb d0 HG6.out, cell_gb d1 HG6.out, cell_gb d2 HG6.out, cell_gb d3 HG6.out, cell_gb z0 HG6.out⟩ | go_keep)
      ((go_simp; go_at_call 33; refine (HAT.out _).mono ?_; rintro e w6 ⟨rfl, hg6⟩; have HG6 := hide (show wr.grownBy w6 none from gb_trans (gb_drew (gb_refl wr none)) hg6 (.inl rfl)); clear hg6))
      go_wp2_with fail
      go_roundw
      case rel =>
       have hr : ∃ k : Nat, Value.int .i64 ((j : Int) + 1) = .int .i64 (k : Int) ∧ k ≤ v.l.length ∧ Value.bool false = .bool (alikeV v.l m k) ∧ Hid (noNil (v.l.take k) = true) ∧ wa.grownBy w6 none := ⟨j + 1, by go_num, by omega, by rw [HNX.out]; simp, HN2, gb_trans HGR.out HG6.out (.inl rfl)⟩
       rw [show decide (0 < v.l.length) = true from decide_eq_true h0]
       repeat apply Exists.intro
       exact ⟨hr, rfl⟩
      case measure => simp [intOf]; omega
  ·have hlt1 : ¬ (j : Int) < (v.l.length : Int) := by omega
   have HB := hide (show listV v = !alikeV v.l m j by
    have h1 := HNN.out
    rw [List.take_of_length_le (by omega)] at h1
    rw [HD.out, h1, show j = v.l.length by omega]; rfl)
   clear hgr
   go_wp2_with fail
   go_ret
   exact ⟨ret_b HB.out.symm, gb_trans HG.out HGR.out (.inl rfl)⟩
end Go.Proofs.YtbmgodmfpoappaaGreat
