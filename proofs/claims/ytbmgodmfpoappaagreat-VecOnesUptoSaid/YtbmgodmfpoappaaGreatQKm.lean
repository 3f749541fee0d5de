/-
  The document's own plain, type by type: atoms, vectors, lambdas, nothing.
-/
import Derived.Test.YtbmgodmfpoappaaGreatQWj
import Derived.Test.YtbmgodmfpoappaaGreatQKa
import Derived.Test.YtbmgodmfpoappaaGreatQKe
import Derived.Deep.QuietTactic
import Derived.BigQuiet
import Derived.Test.YtbmgodmfpoappaaGreatQWk
namespace Go.Proofs.YtbmgodmfpoappaaGreat
open Go.RowKit
attribute [local go_sem ↓] Go.wp_at_zero Go.wp_at_succ
def badT (v : Vl) (i : Nat) : Bool := (v.s.getD i ⟨#[]⟩).toList.isEmpty || !symS (v.s.getD i ⟨#[]⟩) || !rCol (v.l.getD i (.mk 0 [] [] [])).t || inS (v.s.take i) (v.s.getD i ⟨#[]⟩)
def tabV (v : Vl) : Bool := decide (0 < v.s.length) && decide (v.s.length = v.l.length) && (List.range v.s.length).all fun i => !badT v i
theorem tabV_bad {v : Vl} {i : Nat} (hi : i < v.s.length) (h : badT v i = true) : tabV v = false := by
 unfold tabV
 have : ((List.range v.s.length).all fun i => !badT v i) = false := by
  rw [List.all_eq_false]
  exact ⟨i, List.mem_range.2 hi, by simp [h]⟩
 rw [this, Bool.and_false]
theorem inS_take {l : List ByteArray} {x : ByteArray} {j : Nat} (hj : j < l.length) (h : inS (l.take j) x = false) (hx : l[j] ≠ x) : inS (l.take (j + 1)) x = false := by
 rw [Bool.eq_false_iff] at h ⊢
 intro hc
 obtain ⟨y, hy, he⟩ := List.any_eq_true.1 hc
 have hyx := of_decide_eq_true he
 subst hyx
 rw [List.take_succ_eq_append_getElem hj, List.mem_append, List.mem_singleton] at hy
 rcases hy with hy | hy
 ·exact h (inS_yes hy)
 ·exact hx hy.symm
set_option maxHeartbeats 8000000 in
set_option maxRecDepth 100000 in
theorem rTable_any (v : Vl) (w : World) (B : Nat) (nA : Option Addr) (nc : Nat) (sA : Option Addr) (sc : Nat) (lA : Option Addr) (lc : Nat) (ht : v.tot ≤ 1200000000) (hsz : ∀ s ∈ v.s, s.size ≤ 1200000000) (hB : B ≤ w.heap.size) (h : VB w B v nA nc sA sc lA lc) :
  Calls Tryz.prog 114 #[.agg #[.int .i64 v.t, .slice nA v.n.length nc, .slice sA v.s.length sc, .slice lA v.l.length lc]] w fun e w' => e = .returned (.bool (tabV v)) ∧ w.grownBy w' none := by
 obtain ⟨l1, l2, l3, l4⟩ := Vl.lens v ht
 obtain ⟨wa, hwa⟩ : ∃ wa, wa = w.alloc (.cells #[.int .i64 v.t, .slice nA v.n.length nc, .slice sA v.s.length sc, .slice lA v.l.length lc] 26) := ⟨_, rfl⟩
 have hg : w.grownBy wa none := by rw [hwa]; exact gb_alloc (gb_refl w none) _
 have hc := C4.box w (.int .i64 v.t) (.slice nA v.n.length nc) (.slice sA v.s.length sc) (.slice lA v.l.length lc) 26
 rw [← hwa] at hc
 have b2 : wa.cell? ⟨w.heap.size, 2, none⟩ = some (.slice sA v.s.length sc) := hc.c2
 have b3 : wa.cell? ⟨w.heap.size, 3, none⟩ = some (.slice lA v.l.length lc) := hc.c3
 have hbw := Nat.le_trans hB hg.size
 have HV := hide (h.gb hg hB)
 have HBW := hide hbw
 have HG := hide hg
 have HWE := hide hwa
 have HSZ := hide hsz
 have HB2 := hide b2
 clear ht hB h hg hwa hc hbw hsz
 by_cases h0 : v.s.length = 0
 ·have HB := hide (show tabV v = false by unfold tabV; simp [h0])
  have e0 : ((v.s.length : Int) == 0) = true := by rw [h0]; rfl
  clear h0
  go_enter Tryz.func114, Tryz.ntmps114
  go_wp2_with fail
  rw [← HWE.out]
  go_wp2_with fail
  go_ret
  exact ⟨ret_b HB.out.symm, HG.out⟩
 have e0 : ((v.s.length : Int) == 0) = false := beq_eq_false_iff_ne.2 (by omega)
 by_cases h1 : v.s.length = v.l.length
 case neg =>
  have HB := hide (show tabV v = false by unfold tabV; simp [h1])
  have e1 : ((v.s.length : Int) != (v.l.length : Int)) = true := by simp; omega
  clear h0 h1
  go_enter Tryz.func114, Tryz.ntmps114
  go_wp2_with fail
  rw [← HWE.out]
  go_wp2_with fail
  go_ret
  exact ⟨ret_b HB.out.symm, HG.out⟩
 have e1 : ((v.s.length : Int) != (v.l.length : Int)) = false := by simp; omega
 have HLL := hide h1
 clear h1
 go_enter Tryz.func114, Tryz.ntmps114
 go_wp2_with fail
 rw [← HWE.out]
 go_wp2_with fail
 clear e0 e1
 go_loopw [3, 4] (fun i _ wr => ∃ j : Nat, i = .int .i64 (j : Int) ∧ j ≤ v.s.length ∧ Hid (((List.range j).all fun i => !badT v i) = true) ∧ wa.grownBy wr none) (fun i _ _ => v.s.length - (intOf i).toNat)
 case atStart => exact ⟨0, rfl, Nat.zero_le _, hide rfl, gb_refl wa none⟩
 case round =>
  obtain ⟨j, rfl, hj, HA, hgr⟩ := hrel
  have b2 := cell_gb b2 hgr
  have b3 := cell_gb b3 hgr
  have HGR := hide hgr
  by_cases hlt : j < v.s.length
  ·have hlt1 : (j : Int) < (v.s.length : Int) := by omega
   have hltl : j < v.l.length := by have := HLL.out; omega
   have hltl1 : (j : Int) < (v.l.length : Int) := by omega
   obtain ⟨sa, hsa, hsb, ca⟩ := HV.out.s.str hlt
   have ca := cell_gb ca hgr
   obtain ⟨q, o, xA, xc, yA, yc, zA, zc, hlA, hqB, hc4, hvb⟩ := HV.out.l.at_ hltl
   subst hlA
   obtain ⟨d0, d1, d2, d3⟩ := hc4.gb hgr
   have HBN := hide (show badT v j = (v.s[j].toList.isEmpty || !symS v.s[j] || !rCol v.l[j].t || inS (v.s.take j) v.s[j]) by unfold badT; simp [hlt, hltl])
   have HSY := hide (fun w2 : World => rSymbol_ok v.s[j] w2 (HSZ.out _ (List.getElem_mem hlt)))
   have HCO := hide (fun w2 : World => rCol_any v.l[j].t (.slice xA v.l[j].n.length xc) (.slice yA v.l[j].s.length yc) (.slice zA v.l[j].l.length zc) w2)
   have HTB := hide (fun h => tabV_bad hlt h)
   have HST := hide (HV.out.s)
   have HNX : Hid (badT v j = false → ((List.range (j + 1)).all fun i => !badT v i) = true) := hide (fun h => by rw [List.range_succ, List.all_append, HA.out]; simp [h])
   subst hsa
   obtain ⟨x, hx⟩ : ∃ x, x = v.s[j] := ⟨_, rfl⟩
   obtain ⟨y, hy⟩ : ∃ y, y = v.l[j] := ⟨_, rfl⟩
   rw [← hx] at ca HBN HSY
   rw [← hy] at d0 d1 d2 d3 HBN HCO
   have HXJ : Hid (v.s[j]'hlt = x) := hide hx.symm
   clear hx hy hc4 hvb hgr
   cases he : x.toList.isEmpty with
   | true =>
    have HB := hide (HTB.out (by rw [HBN.out, he]; simp))
    have he2 : x.toList = [] := by simpa using he
    go_wp2_with fail
    go_ret
    exact ⟨ret_b HB.out.symm, gb_trans HG.out HGR.out (.inl rfl)⟩
   | false =>
    have he2 : ¬ x.toList = [] := by simpa using he
    cases hs : symS x with
    | false =>
     have HB := hide (HTB.out (by rw [HBN.out, hs]; simp))
     rw [hs] at HSY
     clear hs
     go_wp2_with (go_at_call 116; refine (HSY.out _).mono ?_; rintro e wq ⟨rfl, rfl⟩)
     go_ret
     exact ⟨ret_b HB.out.symm, gb_trans HG.out HGR.out (.inl rfl)⟩
    | true =>
     rw [hs] at HSY
     cases hco : rCol y.t with
     | false =>
      have HB := hide (HTB.out (by rw [HBN.out, hco]; simp))
      rw [hco] at HCO
      clear hs hco
      go_wp2_with (first
       | (go_at_call 116; refine (HSY.out _).mono ?_; rintro e wq ⟨rfl, rfl⟩)
       | (go_at_call 115; refine (HCO.out _).mono ?_; rintro e w1 ⟨rfl, hg1⟩; have HG1 := hide hg1; clear hg1))
      go_ret
      exact ⟨ret_b HB.out.symm, gb_trans HG.out (gb_trans HGR.out HG1.out (.inl rfl)) (.inl rfl)⟩
     | true =>
      have HBX := hide (show badT v j = inS (v.s.take j) x by rw [HBN.out, he, hs, hco]; simp)
      rw [hco] at HCO
      clear hs hco
      go_wp2_with (first
       | (go_at_call 116; refine (HSY.out _).mono ?_; rintro e wq ⟨rfl, rfl⟩)
       | (go_at_call 115; refine (HCO.out _).mono ?_; rintro e w1 ⟨rfl, hg1⟩; have HG1 := hide (gb_trans HGR.out hg1 (.inl rfl)); have b2 := cell_gb b2 hg1; have b3 := cell_gb b3 hg1; clear hg1))
      go_loopw [4] (fun i wr => ∃ k : Nat, i = .int .i64 (k : Int) ∧ k ≤ j ∧ Hid (inS (v.s.take k) x = false) ∧ wa.grownBy wr none) (fun i _ => j - (intOf i).toNat)
      case atStart => exact ⟨0, rfl, Nat.zero_le _, hide rfl, HG1.out⟩
      case round =>
       obtain ⟨k, rfl, hk, HK, hg2⟩ := hrel
       clear b2 b3 ca d0 d1 d2 d3
       have b2 := cell_gb HB2.out hg2
       have HG2 := hide hg2
       by_cases hkj : k < j
       ·have hkj1 : (k : Int) < (j : Int) := by omega
        have hks : k < v.s.length := by omega
        have hks1 : (k : Int) < (v.s.length : Int) := by omega
        obtain ⟨a1, e1, _, c1⟩ := HV.out.s.str hks
        obtain ⟨a2, e2, _, c2⟩ := HV.out.s.str hlt
        cases e1
        cases e2
        have c1 := cell_gb c1 hg2
        have c2 := cell_gb c2 hg2
        rw [HXJ.out] at c2
        obtain ⟨z, hz⟩ : ∃ z, z = v.s[k] := ⟨_, rfl⟩
        rw [← hz] at c1
        have HZK : Hid (v.s[k]'hks = z) := hide hz.symm
        clear hz hg2
        by_cases hzx : z = x
        ·have q1 := ba_eq hzx
         have HB := hide (HTB.out (by
          rw [HBX.out]
          refine inS_yes ?_
          rw [← hzx, ← HZK.out]
          exact List.mem_take_iff_getElem.2 ⟨k, by omega, rfl⟩))
         clear hzx
         go_wp2_with fail
         go_quiet (fail)
         go_wp2_with fail
         go_ret
         exact ⟨ret_b HB.out.symm, gb_drewN (gb_trans HG.out HG2.out (.inl rfl)) _⟩
        ·have q1 := ba_ne hzx
         have HN := hide (inS_take hks HK.out (by rw [HZK.out]; exact hzx))
         clear hzx
         go_wp2_with fail
         go_quiet (fail)
         go_wp2_with fail
         go_roundw
         case rel => exact ⟨k + 1, by go_num, by omega, HN, gb_drewN HG2.out _⟩
         case measure => simp [intOf]; omega
       ·obtain rfl : k = j := by omega
        have hkj1 : ¬ (k : Int) < (k : Int) := by omega
        clear hg2
        go_wp2_with fail
        go_roundw
        case rel => exact ⟨k + 1, by go_num, by omega, hide (HNX.out (by rw [HBX.out]; exact HK.out)), HG2.out⟩
        case measure => simp [intOf]; omega
  ·have hlt1 : ¬ (j : Int) < (v.s.length : Int) := by omega
   have HB := hide (show tabV v = true by
    have h1 := HA.out
    rw [show j = v.s.length by omega] at h1
    unfold tabV
    rw [h1, decide_eq_true (show 0 < v.s.length by omega), decide_eq_true HLL.out]
    rfl)
   clear hgr
   go_wp2_with fail
   go_ret
   exact ⟨ret_b HB.out.symm, gb_trans HG.out HGR.out (.inl rfl)⟩
end Go.Proofs.YtbmgodmfpoappaaGreat
namespace Go.Proofs.YtbmgodmfpoappaaGreat
open Go.RowKit
attribute [local go_sem ↓] Go.wp_at_zero Go.wp_at_succ
set_option maxHeartbeats 8000000 in
set_option maxRecDepth 100000 in
theorem plain_list (v : Vl) (w : World) (B : Nat) (nA : Option Addr) (nc : Nat) (sA : Option Addr) (sc : Nat) (lA : Option Addr) (lc : Nat) (ht : v.tot ≤ 1200000000) (hsz : ∀ s ∈ v.s, s.size ≤ 1200000000) (hB : B ≤ w.heap.size) (h : VB w B v nA nc sA sc lA lc) (ht0 : v.t = 0) :
  Calls Tryz.prog 86 #[.agg #[.int .i64 v.t, .slice nA v.n.length nc, .slice sA v.s.length sc, .slice lA v.l.length lc]] w fun e w' => e = .returned (.bool (listV v)) ∧ w.grownBy w' none := by
 obtain ⟨l1, l2, l3, l4⟩ := Vl.lens v ht
 obtain ⟨wa, hwa⟩ : ∃ wa, wa = w.alloc (.cells #[.int .i64 v.t, .slice nA v.n.length nc, .slice sA v.s.length sc, .slice lA v.l.length lc] 26) := ⟨_, rfl⟩
 have hg : w.grownBy wa none := by rw [hwa]; exact gb_alloc (gb_refl w none) _
 have hc := C4.box w (.int .i64 v.t) (.slice nA v.n.length nc) (.slice sA v.s.length sc) (.slice lA v.l.length lc) 26
 rw [← hwa] at hc
 have b0 : wa.cell? ⟨w.heap.size, 0, none⟩ = some (.int .i64 v.t) := hc.c0
 have b1 : wa.cell? ⟨w.heap.size, 1, none⟩ = some (.slice nA v.n.length nc) := hc.c1
 have b2 : wa.cell? ⟨w.heap.size, 2, none⟩ = some (.slice sA v.s.length sc) := hc.c2
 have b3 : wa.cell? ⟨w.heap.size, 3, none⟩ = some (.slice lA v.l.length lc) := hc.c3
 have hbw := Nat.le_trans hB hg.size
 have HV := hide (h.gb hg hB)
 have HBW := hide hbw
 have HG := hide hg
 have HC := hide hc
 have HWE := hide hwa
 have HSZ := hide hsz
 have HTT := hide ht
 have HAT := hide (fun w2 : World => rAtom_any v.t (.slice nA v.n.length nc) (.slice sA v.s.length sc) (.slice lA v.l.length lc) w2)
 have HAB := hide (fun w2 : World => rAbs_any v.t w2)
 have e100 : (v.t == 100) = false := int_beq_f (by omega)
 have e0 : (v.t == 0) = true := int_beq_t ht0
 have ea : rAtom v.t = false := by rw [ht0]; rfl
 have eb : rAbs v.t = 0 := by rw [ht0]; rfl
 have HL := hide (fun w2 (k : wa.grownBy w2 none) => rList_any v w2 B nA nc sA sc lA lc ht (Nat.le_trans hbw k.size) ((h.gb hg hB).gb k hbw))
 rw [ea] at HAT
 rw [eb] at HAB
 clear ea eb ht0
 clear ht hB h hg hwa hc hbw hsz
 go_enter Tryz.func86, Tryz.ntmps86
 go_wp2_with fail
 rw [← HWE.out]
 go_wp2_with (first
  | (go_at_call 33; refine (HAT.out _).mono ?_; rintro e w1 ⟨rfl, hg1⟩; have b0 := cell_gb b0 hg1; have b1 := cell_gb b1 hg1; have b2 := cell_gb b2 hg1; have b3 := cell_gb b3 hg1; have HG1 := hide hg1; clear hg1)
  | (go_at_call 54; refine (HAB.out _).mono ?_; rintro e wq ⟨rfl, rfl⟩)
  | (go_at_call 113; refine (HL.out _ HG1.out).mono ?_; rintro e w2 ⟨rfl, hg2⟩; have HG2 := hide hg2; clear hg2))
 go_ret
 exact ⟨rfl, gb_trans HG.out (gb_trans HG1.out HG2.out (.inl rfl)) (.inl rfl)⟩
set_option maxHeartbeats 8000000 in
set_option maxRecDepth 100000 in
theorem plain_table (v : Vl) (w : World) (B : Nat) (nA : Option Addr) (nc : Nat) (sA : Option Addr) (sc : Nat) (lA : Option Addr) (lc : Nat) (ht : v.tot ≤ 1200000000) (hsz : ∀ s ∈ v.s, s.size ≤ 1200000000) (hB : B ≤ w.heap.size) (h : VB w B v nA nc sA sc lA lc) (ht0 : v.t = 98) :
  Calls Tryz.prog 86 #[.agg #[.int .i64 v.t, .slice nA v.n.length nc, .slice sA v.s.length sc, .slice lA v.l.length lc]] w fun e w' => e = .returned (.bool (tabV v)) ∧ w.grownBy w' none := by
 obtain ⟨l1, l2, l3, l4⟩ := Vl.lens v ht
 obtain ⟨wa, hwa⟩ : ∃ wa, wa = w.alloc (.cells #[.int .i64 v.t, .slice nA v.n.length nc, .slice sA v.s.length sc, .slice lA v.l.length lc] 26) := ⟨_, rfl⟩
 have hg : w.grownBy wa none := by rw [hwa]; exact gb_alloc (gb_refl w none) _
 have hc := C4.box w (.int .i64 v.t) (.slice nA v.n.length nc) (.slice sA v.s.length sc) (.slice lA v.l.length lc) 26
 rw [← hwa] at hc
 have b0 : wa.cell? ⟨w.heap.size, 0, none⟩ = some (.int .i64 v.t) := hc.c0
 have b1 : wa.cell? ⟨w.heap.size, 1, none⟩ = some (.slice nA v.n.length nc) := hc.c1
 have b2 : wa.cell? ⟨w.heap.size, 2, none⟩ = some (.slice sA v.s.length sc) := hc.c2
 have b3 : wa.cell? ⟨w.heap.size, 3, none⟩ = some (.slice lA v.l.length lc) := hc.c3
 have hbw := Nat.le_trans hB hg.size
 have HV := hide (h.gb hg hB)
 have HBW := hide hbw
 have HG := hide hg
 have HC := hide hc
 have HWE := hide hwa
 have HSZ := hide hsz
 have HTT := hide ht
 have HAT := hide (fun w2 : World => rAtom_any v.t (.slice nA v.n.length nc) (.slice sA v.s.length sc) (.slice lA v.l.length lc) w2)
 have HAB := hide (fun w2 : World => rAbs_any v.t w2)
 have e100 : (v.t == 100) = false := int_beq_f (by omega)
 have e0 : (v.t == 0) = false := int_beq_f (by omega)
 have e98 : (v.t == 98) = true := int_beq_t ht0
 have ea : rAtom v.t = false := by rw [ht0]; rfl
 have eb : rAbs v.t = 98 := by rw [ht0]; rfl
 have HL := hide (fun w2 (k : wa.grownBy w2 none) => rTable_any v w2 B nA nc sA sc lA lc ht hsz (Nat.le_trans hbw k.size) ((h.gb hg hB).gb k hbw))
 rw [ea] at HAT
 rw [eb] at HAB
 clear ea eb ht0
 clear ht hB h hg hwa hc hbw hsz
 go_enter Tryz.func86, Tryz.ntmps86
 go_wp2_with fail
 rw [← HWE.out]
 go_wp2_with (first
  | (go_at_call 33; refine (HAT.out _).mono ?_; rintro e w1 ⟨rfl, hg1⟩; have b0 := cell_gb b0 hg1; have b1 := cell_gb b1 hg1; have b2 := cell_gb b2 hg1; have b3 := cell_gb b3 hg1; have HG1 := hide hg1; clear hg1)
  | (go_at_call 54; refine (HAB.out _).mono ?_; rintro e wq ⟨rfl, rfl⟩)
  | (go_at_call 114; refine (HL.out _ HG1.out).mono ?_; rintro e w2 ⟨rfl, hg2⟩; have HG2 := hide hg2; clear hg2))
 go_ret
 exact ⟨rfl, gb_trans HG.out (gb_trans HG1.out HG2.out (.inl rfl)) (.inl rfl)⟩
end Go.Proofs.YtbmgodmfpoappaaGreat
namespace Go.Proofs.YtbmgodmfpoappaaGreat
open Go.RowKit
attribute [local go_sem ↓] Go.wp_at_zero Go.wp_at_succ
theorem rAbs_small {t : Int} {n : Int} (h : rAbs t = n) (h1 : 1 ≤ n) (h2 : n ≤ 5) : t ≠ 0 ∧ -5 ≤ t ∧ t ≤ 5 := by
 unfold rAbs at h
 split at h <;> omega
def bitsV (l : List Int) : Bool := l.all fun x => decide (x = 0) || decide (x = 1)
set_option maxHeartbeats 8000000 in
set_option maxRecDepth 100000 in
theorem plain_sum (v : Vl) (w : World) (B : Nat) (nA : Option Addr) (nc : Nat) (sA : Option Addr) (sc : Nat) (lA : Option Addr) (lc : Nat) (ht : v.tot ≤ 1200000000) (hsz : ∀ s ∈ v.s, s.size ≤ 1200000000) (hB : B ≤ w.heap.size) (h : VB w B v nA nc sA sc lA lc) (hA : rAtom v.t = true) (hsum : v.n.length + v.s.length ≠ 1) :
  Calls Tryz.prog 86 #[.agg #[.int .i64 v.t, .slice nA v.n.length nc, .slice sA v.s.length sc, .slice lA v.l.length lc]] w fun e w' => e = .returned (.bool (false)) ∧ w.grownBy w' none := by
 obtain ⟨l1, l2, l3, l4⟩ := Vl.lens v ht
 obtain ⟨wa, hwa⟩ : ∃ wa, wa = w.alloc (.cells #[.int .i64 v.t, .slice nA v.n.length nc, .slice sA v.s.length sc, .slice lA v.l.length lc] 26) := ⟨_, rfl⟩
 have hg : w.grownBy wa none := by rw [hwa]; exact gb_alloc (gb_refl w none) _
 have hc := C4.box w (.int .i64 v.t) (.slice nA v.n.length nc) (.slice sA v.s.length sc) (.slice lA v.l.length lc) 26
 rw [← hwa] at hc
 have b0 : wa.cell? ⟨w.heap.size, 0, none⟩ = some (.int .i64 v.t) := hc.c0
 have b1 : wa.cell? ⟨w.heap.size, 1, none⟩ = some (.slice nA v.n.length nc) := hc.c1
 have b2 : wa.cell? ⟨w.heap.size, 2, none⟩ = some (.slice sA v.s.length sc) := hc.c2
 have b3 : wa.cell? ⟨w.heap.size, 3, none⟩ = some (.slice lA v.l.length lc) := hc.c3
 have HV := hide (h.gb hg hB)
 have HG := hide hg
 have HWE := hide hwa
 have HSZ := hide hsz
 have HAT := hide (fun w2 : World => rAtom_any v.t (.slice nA v.n.length nc) (.slice sA v.s.length sc) (.slice lA v.l.length lc) w2)
 have HAB := hide (fun w2 : World => rAbs_any v.t w2)
 rw [hA] at HAT
 have es : ((v.n.length : Int) + (v.s.length : Int) != 1) = true := by simp; omega
 clear hA
 clear ht hB h hg hwa hc hsz
 go_enter Tryz.func86, Tryz.ntmps86
 go_wp2_with fail
 rw [← HWE.out]
 go_wp2_with (first
  | (go_at_call 33; refine (HAT.out _).mono ?_; rintro e w1 ⟨rfl, hg1⟩; have b0 := cell_gb b0 hg1; have b1 := cell_gb b1 hg1; have b2 := cell_gb b2 hg1; have b3 := cell_gb b3 hg1; have HG1 := hide hg1; clear hg1)
  | (go_at_call 54; refine (HAB.out _).mono ?_; rintro e wq ⟨rfl, rfl⟩))
 go_ret
 exact ⟨rfl, gb_trans HG.out HG1.out (.inl rfl)⟩
set_option maxHeartbeats 8000000 in
set_option maxRecDepth 100000 in
theorem plain_numA (v : Vl) (w : World) (B : Nat) (nA : Option Addr) (nc : Nat) (sA : Option Addr) (sc : Nat) (lA : Option Addr) (lc : Nat) (ht : v.tot ≤ 1200000000) (hsz : ∀ s ∈ v.s, s.size ≤ 1200000000) (hB : B ≤ w.heap.size) (h : VB w B v nA nc sA sc lA lc) (hA : rAtom v.t = true) (hsum : v.n.length + v.s.length = 1) (hk : rAbs v.t = 2 ∨ rAbs v.t = 4 ∨ rAbs v.t = 5) (hs0 : v.s.length = 0) :
  Calls Tryz.prog 86 #[.agg #[.int .i64 v.t, .slice nA v.n.length nc, .slice sA v.s.length sc, .slice lA v.l.length lc]] w fun e w' => e = .returned (.bool (true)) ∧ w.grownBy w' none := by
 obtain ⟨l1, l2, l3, l4⟩ := Vl.lens v ht
 obtain ⟨wa, hwa⟩ : ∃ wa, wa = w.alloc (.cells #[.int .i64 v.t, .slice nA v.n.length nc, .slice sA v.s.length sc, .slice lA v.l.length lc] 26) := ⟨_, rfl⟩
 have hg : w.grownBy wa none := by rw [hwa]; exact gb_alloc (gb_refl w none) _
 have hc := C4.box w (.int .i64 v.t) (.slice nA v.n.length nc) (.slice sA v.s.length sc) (.slice lA v.l.length lc) 26
 rw [← hwa] at hc
 have b0 : wa.cell? ⟨w.heap.size, 0, none⟩ = some (.int .i64 v.t) := hc.c0
 have b1 : wa.cell? ⟨w.heap.size, 1, none⟩ = some (.slice nA v.n.length nc) := hc.c1
 have b2 : wa.cell? ⟨w.heap.size, 2, none⟩ = some (.slice sA v.s.length sc) := hc.c2
 have b3 : wa.cell? ⟨w.heap.size, 3, none⟩ = some (.slice lA v.l.length lc) := hc.c3
 have HV := hide (h.gb hg hB)
 have HG := hide hg
 have HWE := hide hwa
 have HSZ := hide hsz
 have HAT := hide (fun w2 : World => rAtom_any v.t (.slice nA v.n.length nc) (.slice sA v.s.length sc) (.slice lA v.l.length lc) w2)
 have HAB := hide (fun w2 : World => rAbs_any v.t w2)
 rw [hA] at HAT
 have es : ((v.n.length : Int) + (v.s.length : Int) != 1) = false := by simp; omega
 clear hA
 have hr : v.t ≠ 0 ∧ -5 ≤ v.t ∧ v.t ≤ 5 := by rcases hk with h | h | h <;> exact rAbs_small h (by omega) (by omega)
 have k1 : (rAbs v.t == 1) = false := int_beq_f (by omega)
 have e100 : (v.t == 100) = false := int_beq_f (by omega)
 have e0 : (v.t == 0) = false := int_beq_f (by omega)
 have e98 : (v.t == 98) = false := int_beq_f (by omega)
 have e99 : (v.t == 99) = false := int_beq_f (by omega)
 have hs1 : ¬ (0 : Int) < (v.s.length : Int) := by omega
 have HS0 := hide hs0
 clear hk hr hs0
 generalize rAbs v.t = ab at *
 clear ht hB h hg hwa hc hsz
 go_enter Tryz.func86, Tryz.ntmps86
 go_wp2_with fail
 rw [← HWE.out]
 go_wp2_with (first
  | (go_at_call 33; refine (HAT.out _).mono ?_; rintro e w1 ⟨rfl, hg1⟩; have b0 := cell_gb b0 hg1; have b1 := cell_gb b1 hg1; have b2 := cell_gb b2 hg1; have b3 := cell_gb b3 hg1; have HG1 := hide hg1; clear hg1)
  | (go_at_call 54; refine (HAB.out _).mono ?_; rintro e wq ⟨rfl, rfl⟩))
 go_loopw [4] (fun i wr => i = .int .i64 0 ∧ w1 = wr) (fun _ _ => 0)
 case atStart => exact ⟨rfl, rfl⟩
 case round =>
  obtain ⟨rfl, rfl⟩ := hrel
  go_wp2_with fail
  go_ret
  exact ⟨rfl, gb_trans HG.out HG1.out (.inl rfl)⟩
set_option maxHeartbeats 8000000 in
set_option maxRecDepth 100000 in
theorem plain_numV (v : Vl) (w : World) (B : Nat) (nA : Option Addr) (nc : Nat) (sA : Option Addr) (sc : Nat) (lA : Option Addr) (lc : Nat) (ht : v.tot ≤ 1200000000) (hsz : ∀ s ∈ v.s, s.size ≤ 1200000000) (hB : B ≤ w.heap.size) (h : VB w B v nA nc sA sc lA lc) (hA : rAtom v.t = false) (hk : rAbs v.t = 2 ∨ rAbs v.t = 4 ∨ rAbs v.t = 5) (hs0 : v.s.length = 0) :
  Calls Tryz.prog 86 #[.agg #[.int .i64 v.t, .slice nA v.n.length nc, .slice sA v.s.length sc, .slice lA v.l.length lc]] w fun e w' => e = .returned (.bool (true)) ∧ w.grownBy w' none := by
 obtain ⟨l1, l2, l3, l4⟩ := Vl.lens v ht
 obtain ⟨wa, hwa⟩ : ∃ wa, wa = w.alloc (.cells #[.int .i64 v.t, .slice nA v.n.length nc, .slice sA v.s.length sc, .slice lA v.l.length lc] 26) := ⟨_, rfl⟩
 have hg : w.grownBy wa none := by rw [hwa]; exact gb_alloc (gb_refl w none) _
 have hc := C4.box w (.int .i64 v.t) (.slice nA v.n.length nc) (.slice sA v.s.length sc) (.slice lA v.l.length lc) 26
 rw [← hwa] at hc
 have b0 : wa.cell? ⟨w.heap.size, 0, none⟩ = some (.int .i64 v.t) := hc.c0
 have b1 : wa.cell? ⟨w.heap.size, 1, none⟩ = some (.slice nA v.n.length nc) := hc.c1
 have b2 : wa.cell? ⟨w.heap.size, 2, none⟩ = some (.slice sA v.s.length sc) := hc.c2
 have b3 : wa.cell? ⟨w.heap.size, 3, none⟩ = some (.slice lA v.l.length lc) := hc.c3
 have HV := hide (h.gb hg hB)
 have HG := hide hg
 have HWE := hide hwa
 have HSZ := hide hsz
 have HAT := hide (fun w2 : World => rAtom_any v.t (.slice nA v.n.length nc) (.slice sA v.s.length sc) (.slice lA v.l.length lc) w2)
 have HAB := hide (fun w2 : World => rAbs_any v.t w2)
 rw [hA] at HAT
 clear hA
 have hr : v.t ≠ 0 ∧ -5 ≤ v.t ∧ v.t ≤ 5 := by rcases hk with h | h | h <;> exact rAbs_small h (by omega) (by omega)
 have k1 : (rAbs v.t == 1) = false := int_beq_f (by omega)
 have e100 : (v.t == 100) = false := int_beq_f (by omega)
 have e0 : (v.t == 0) = false := int_beq_f (by omega)
 have e98 : (v.t == 98) = false := int_beq_f (by omega)
 have e99 : (v.t == 99) = false := int_beq_f (by omega)
 have hs1 : ¬ (0 : Int) < (v.s.length : Int) := by omega
 have HS0 := hide hs0
 clear hk hr hs0
 generalize rAbs v.t = ab at *
 clear ht hB h hg hwa hc hsz
 go_enter Tryz.func86, Tryz.ntmps86
 go_wp2_with fail
 rw [← HWE.out]
 go_wp2_with (first
  | (go_at_call 33; refine (HAT.out _).mono ?_; rintro e w1 ⟨rfl, hg1⟩; have b0 := cell_gb b0 hg1; have b1 := cell_gb b1 hg1; have b2 := cell_gb b2 hg1; have b3 := cell_gb b3 hg1; have HG1 := hide hg1; clear hg1)
  | (go_at_call 54; refine (HAB.out _).mono ?_; rintro e wq ⟨rfl, rfl⟩))
 go_loopw [4] (fun i wr => i = .int .i64 0 ∧ w1 = wr) (fun _ _ => 0)
 case atStart => exact ⟨rfl, rfl⟩
 case round =>
  obtain ⟨rfl, rfl⟩ := hrel
  go_wp2_with fail
  go_ret
  exact ⟨rfl, gb_trans HG.out HG1.out (.inl rfl)⟩
end Go.Proofs.YtbmgodmfpoappaaGreat
/- The document's own plain, type by type: truths, symbols, lambdas, nothing. -/
namespace Go.Proofs.YtbmgodmfpoappaaGreat
open Go.RowKit
attribute [local go_sem ↓] Go.wp_at_zero Go.wp_at_succ
theorem bitsV_no {l : List Int} {k : Nat} (hk : k < l.length) (h0 : l[k] ≠ 0) (h1 : l[k] ≠ 1) : bitsV l = false := by
 unfold bitsV
 rw [List.all_eq_false]
 exact ⟨l[k], List.getElem_mem hk, by simp [h0, h1]⟩
theorem bitsV_yes {l : List Int} {k : Nat} (hk : k < l.length) (h : bitsV (l.take k) = true) (h1 : l[k] = 0 ∨ l[k] = 1) : bitsV (l.take (k + 1)) = true := by
 rw [List.take_succ_eq_append_getElem hk]
 unfold bitsV at *
 rw [List.all_append, h]
 rcases h1 with h1 | h1 <;> simp [h1]
set_option maxHeartbeats 8000000 in
set_option maxRecDepth 100000 in
theorem plain_boolA (v : Vl) (w : World) (B : Nat) (nA : Option Addr) (nc : Nat) (sA : Option Addr) (sc : Nat) (lA : Option Addr) (lc : Nat) (ht : v.tot ≤ 1200000000) (hsz : ∀ s ∈ v.s, s.size ≤ 1200000000) (hB : B ≤ w.heap.size) (h : VB w B v nA nc sA sc lA lc) (hA : rAtom v.t = true) (hsum : v.n.length + v.s.length = 1) (hk : rAbs v.t = 1) (hs0 : v.s.length = 0) :
  Calls Tryz.prog 86 #[.agg #[.int .i64 v.t, .slice nA v.n.length nc, .slice sA v.s.length sc, .slice lA v.l.length lc]] w fun e w' => e = .returned (.bool (bitsV v.n)) ∧ w.grownBy w' none := by
 obtain ⟨l1, l2, l3, l4⟩ := Vl.lens v ht
 obtain ⟨wa, hwa⟩ : ∃ wa, wa = w.alloc (.cells #[.int .i64 v.t, .slice nA v.n.length nc, .slice sA v.s.length sc, .slice lA v.l.length lc] 26) := ⟨_, rfl⟩
 have hg : w.grownBy wa none := by rw [hwa]; exact gb_alloc (gb_refl w none) _
 have hc := C4.box w (.int .i64 v.t) (.slice nA v.n.length nc) (.slice sA v.s.length sc) (.slice lA v.l.length lc) 26
 rw [← hwa] at hc
 have b0 : wa.cell? ⟨w.heap.size, 0, none⟩ = some (.int .i64 v.t) := hc.c0
 have b1 : wa.cell? ⟨w.heap.size, 1, none⟩ = some (.slice nA v.n.length nc) := hc.c1
 have b2 : wa.cell? ⟨w.heap.size, 2, none⟩ = some (.slice sA v.s.length sc) := hc.c2
 have b3 : wa.cell? ⟨w.heap.size, 3, none⟩ = some (.slice lA v.l.length lc) := hc.c3
 have HV := hide (h.gb hg hB)
 have HG := hide hg
 have HWE := hide hwa
 have HSZ := hide hsz
 have HAT := hide (fun w2 : World => rAtom_any v.t (.slice nA v.n.length nc) (.slice sA v.s.length sc) (.slice lA v.l.length lc) w2)
 have HAB := hide (fun w2 : World => rAbs_any v.t w2)
 rw [hA] at HAT
 have es : ((v.n.length : Int) + (v.s.length : Int) != 1) = false := by simp; omega
 clear hA
 rw [hk] at HAB
 have HN := hide (h.gb hg hB).n
 have hs1 : ¬ (0 : Int) < (v.s.length : Int) := by omega
 clear hk hs0
 clear ht hB h hg hwa hc hsz
 go_enter Tryz.func86, Tryz.ntmps86
 go_wp2_with fail
 rw [← HWE.out]
 go_wp2_with (first
  | (go_at_call 33; refine (HAT.out _).mono ?_; rintro e w1 ⟨rfl, hg1⟩; have b0 := cell_gb b0 hg1; have b1 := cell_gb b1 hg1; have b2 := cell_gb b2 hg1; have b3 := cell_gb b3 hg1; have HG1 := hide hg1; clear hg1)
  | (go_at_call 54; refine (HAB.out _).mono ?_; rintro e wq ⟨rfl, rfl⟩))
 go_loopw [3] (fun i wr => ∃ k : Nat, i = .int .i64 (k : Int) ∧ k ≤ v.n.length ∧ Hid (bitsV (v.n.take k) = true) ∧ w1 = wr) (fun i _ => v.n.length - (intOf i).toNat)
 case atStart => exact ⟨0, rfl, Nat.zero_le _, hide rfl, rfl⟩
 case round =>
  obtain ⟨k, rfl, hk, HK, rfl⟩ := hrel
  by_cases hlt : k < v.n.length
  ·have hlt1 : (k : Int) < (v.n.length : Int) := by omega
   obtain ⟨ad, rfl, _, hcell⟩ := HN.out.i64 hlt
   have hcell := cell_gb hcell HG1.out
   have HY := hide (fun h => bitsV_yes hlt HK.out h)
   have HNO := hide (fun h h' => bitsV_no hlt h h')
   obtain ⟨x, hx⟩ : ∃ x, x = v.n[k] := ⟨_, rfl⟩
   rw [← hx] at hcell HY HNO
   clear hx
   by_cases h0 : x = 0
   ·have q0 : (x != 0) = false := int_bne_t h0
    have HB := hide (HY.out (.inl h0))
    clear h0
    go_wp2_with fail
    go_roundw
    case rel => exact ⟨k + 1, by go_num, by omega, HB, trivial⟩
    case measure => simp [intOf]; omega
   ·have q0 : (x != 0) = true := int_bne_f h0
    by_cases h1 : x = 1
    ·have q1 : (x != 1) = false := int_bne_t h1
     have HB := hide (HY.out (.inr h1))
     clear h0 h1
     go_wp2_with fail
     go_roundw
     case rel => exact ⟨k + 1, by go_num, by omega, HB, trivial⟩
     case measure => simp [intOf]; omega
    ·have q1 : (x != 1) = true := int_bne_f h1
     have HB := hide (HNO.out h0 h1)
     clear h0 h1
     go_wp2_with fail
     go_ret
     exact ⟨ret_b HB.out.symm, gb_trans HG.out HG1.out (.inl rfl)⟩
  ·have hlt1 : ¬ (k : Int) < (v.n.length : Int) := by omega
   have HB := hide (show bitsV v.n = true by
    have h1 := HK.out
    rwa [List.take_of_length_le (by omega)] at h1)
   go_wp2_with fail
   go_loopw [4] (fun i wr => i = .int .i64 0 ∧ w1 = wr) (fun _ _ => 0)
   case atStart => exact ⟨rfl, rfl⟩
   case round =>
    obtain ⟨rfl, rfl⟩ := hrel
    go_wp2_with fail
    go_ret
    exact ⟨ret_b HB.out.symm, gb_trans HG.out HG1.out (.inl rfl)⟩
set_option maxHeartbeats 8000000 in
set_option maxRecDepth 100000 in
theorem plain_symA (v : Vl) (w : World) (B : Nat) (nA : Option Addr) (nc : Nat) (sA : Option Addr) (sc : Nat) (lA : Option Addr) (lc : Nat) (ht : v.tot ≤ 1200000000) (hsz : ∀ s ∈ v.s, s.size ≤ 1200000000) (hB : B ≤ w.heap.size) (h : VB w B v nA nc sA sc lA lc) (hA : rAtom v.t = true) (hsum : v.n.length + v.s.length = 1) (hk : rAbs v.t = 3) :
  Calls Tryz.prog 86 #[.agg #[.int .i64 v.t, .slice nA v.n.length nc, .slice sA v.s.length sc, .slice lA v.l.length lc]] w fun e w' => e = .returned (.bool (v.s.all symS)) ∧ w.grownBy w' none := by
 obtain ⟨l1, l2, l3, l4⟩ := Vl.lens v ht
 obtain ⟨wa, hwa⟩ : ∃ wa, wa = w.alloc (.cells #[.int .i64 v.t, .slice nA v.n.length nc, .slice sA v.s.length sc, .slice lA v.l.length lc] 26) := ⟨_, rfl⟩
 have hg : w.grownBy wa none := by rw [hwa]; exact gb_alloc (gb_refl w none) _
 have hc := C4.box w (.int .i64 v.t) (.slice nA v.n.length nc) (.slice sA v.s.length sc) (.slice lA v.l.length lc) 26
 rw [← hwa] at hc
 have b0 : wa.cell? ⟨w.heap.size, 0, none⟩ = some (.int .i64 v.t) := hc.c0
 have b1 : wa.cell? ⟨w.heap.size, 1, none⟩ = some (.slice nA v.n.length nc) := hc.c1
 have b2 : wa.cell? ⟨w.heap.size, 2, none⟩ = some (.slice sA v.s.length sc) := hc.c2
 have b3 : wa.cell? ⟨w.heap.size, 3, none⟩ = some (.slice lA v.l.length lc) := hc.c3
 have HV := hide (h.gb hg hB)
 have HG := hide hg
 have HWE := hide hwa
 have HSZ := hide hsz
 have HAT := hide (fun w2 : World => rAtom_any v.t (.slice nA v.n.length nc) (.slice sA v.s.length sc) (.slice lA v.l.length lc) w2)
 have HAB := hide (fun w2 : World => rAbs_any v.t w2)
 rw [hA] at HAT
 have es : ((v.n.length : Int) + (v.s.length : Int) != 1) = false := by simp; omega
 clear hA
 have hr := rAbs_small hk (by omega) (by omega)
 have e100 : (v.t == 100) = false := int_beq_f (by omega)
 have e0 : (v.t == 0) = false := int_beq_f (by omega)
 have e98 : (v.t == 98) = false := int_beq_f (by omega)
 have e99 : (v.t == 99) = false := int_beq_f (by omega)
 rw [hk] at HAB
 have HS := hide (h.gb hg hB).s
 clear hk hr
 clear ht hB h hg hwa hc hsz
 go_enter Tryz.func86, Tryz.ntmps86
 go_wp2_with fail
 rw [← HWE.out]
 go_wp2_with (first
  | (go_at_call 33; refine (HAT.out _).mono ?_; rintro e w1 ⟨rfl, hg1⟩; have b0 := cell_gb b0 hg1; have b1 := cell_gb b1 hg1; have b2 := cell_gb b2 hg1; have b3 := cell_gb b3 hg1; have HG1 := hide hg1; clear hg1)
  | (go_at_call 54; refine (HAB.out _).mono ?_; rintro e wq ⟨rfl, rfl⟩))
 go_loopw [4] (fun i wr => ∃ k : Nat, i = .int .i64 (k : Int) ∧ k ≤ v.s.length ∧ Hid ((v.s.take k).all symS = true) ∧ w1 = wr) (fun i _ => v.s.length - (intOf i).toNat)
 case atStart => exact ⟨0, rfl, Nat.zero_le _, hide rfl, rfl⟩
 case round =>
  obtain ⟨k, rfl, hk, HK, rfl⟩ := hrel
  by_cases hlt : k < v.s.length
  ·have hlt1 : (k : Int) < (v.s.length : Int) := by omega
   obtain ⟨ad, rfl, _, hcell⟩ := HS.out.str hlt
   have hcell := cell_gb hcell HG1.out
   have HSY := hide (fun w2 : World => rSymbol_ok v.s[k] w2 (HSZ.out _ (List.getElem_mem hlt)))
   have HY : Hid (symS v.s[k] = true → (v.s.take (k + 1)).all symS = true) := hide (fun h => by rw [List.take_succ_eq_append_getElem hlt, List.all_append, HK.out]; simp [h])
   have HNO : Hid (symS v.s[k] = false → v.s.all symS = false) := hide (fun h => by rw [List.all_eq_false]; exact ⟨_, List.getElem_mem hlt, by simp [h]⟩)
   obtain ⟨x, hx⟩ : ∃ x, x = v.s[k] := ⟨_, rfl⟩
   rw [← hx] at hcell HSY HY HNO
   clear hx
   cases hs : symS x with
   | true =>
    have HB := hide (HY.out hs)
    rw [hs] at HSY
    clear hs
    go_wp2_with (first
     | (go_at_call 54; refine (HAB.out _).mono ?_; rintro e wq ⟨rfl, rfl⟩)
     | (go_at_call 116; refine (HSY.out _).mono ?_; rintro e wq ⟨rfl, rfl⟩))
    go_roundw
    case rel => exact ⟨k + 1, by go_num, by omega, HB, trivial⟩
    case measure => simp [intOf]; omega
   | false =>
    have HB := hide (HNO.out hs)
    rw [hs] at HSY
    clear hs
    go_wp2_with (first
     | (go_at_call 54; refine (HAB.out _).mono ?_; rintro e wq ⟨rfl, rfl⟩)
     | (go_at_call 116; refine (HSY.out _).mono ?_; rintro e wq ⟨rfl, rfl⟩))
    go_ret
    exact ⟨ret_b HB.out.symm, gb_trans HG.out HG1.out (.inl rfl)⟩
  ·have hlt1 : ¬ (k : Int) < (v.s.length : Int) := by omega
   have HB := hide (show v.s.all symS = true by
    have h1 := HK.out
    rwa [List.take_of_length_le (by omega)] at h1)
   go_wp2_with fail
   go_ret
   exact ⟨ret_b HB.out.symm, gb_trans HG.out HG1.out (.inl rfl)⟩
set_option maxHeartbeats 8000000 in
set_option maxRecDepth 100000 in
theorem plain_boolV (v : Vl) (w : World) (B : Nat) (nA : Option Addr) (nc : Nat) (sA : Option Addr) (sc : Nat) (lA : Option Addr) (lc : Nat) (ht : v.tot ≤ 1200000000) (hsz : ∀ s ∈ v.s, s.size ≤ 1200000000) (hB : B ≤ w.heap.size) (h : VB w B v nA nc sA sc lA lc) (hA : rAtom v.t = false) (hk : rAbs v.t = 1) (hs0 : v.s.length = 0) :
  Calls Tryz.prog 86 #[.agg #[.int .i64 v.t, .slice nA v.n.length nc, .slice sA v.s.length sc, .slice lA v.l.length lc]] w fun e w' => e = .returned (.bool (bitsV v.n)) ∧ w.grownBy w' none := by
 obtain ⟨l1, l2, l3, l4⟩ := Vl.lens v ht
 obtain ⟨wa, hwa⟩ : ∃ wa, wa = w.alloc (.cells #[.int .i64 v.t, .slice nA v.n.length nc, .slice sA v.s.length sc, .slice lA v.l.length lc] 26) := ⟨_, rfl⟩
 have hg : w.grownBy wa none := by rw [hwa]; exact gb_alloc (gb_refl w none) _
 have hc := C4.box w (.int .i64 v.t) (.slice nA v.n.length nc) (.slice sA v.s.length sc) (.slice lA v.l.length lc) 26
 rw [← hwa] at hc
 have b0 : wa.cell? ⟨w.heap.size, 0, none⟩ = some (.int .i64 v.t) := hc.c0
 have b1 : wa.cell? ⟨w.heap.size, 1, none⟩ = some (.slice nA v.n.length nc) := hc.c1
 have b2 : wa.cell? ⟨w.heap.size, 2, none⟩ = some (.slice sA v.s.length sc) := hc.c2
 have b3 : wa.cell? ⟨w.heap.size, 3, none⟩ = some (.slice lA v.l.length lc) := hc.c3
 have HV := hide (h.gb hg hB)
 have HG := hide hg
 have HWE := hide hwa
 have HSZ := hide hsz
 have HAT := hide (fun w2 : World => rAtom_any v.t (.slice nA v.n.length nc) (.slice sA v.s.length sc) (.slice lA v.l.length lc) w2)
 have HAB := hide (fun w2 : World => rAbs_any v.t w2)
 rw [hA] at HAT
 clear hA
 rw [hk] at HAB
 have HN := hide (h.gb hg hB).n
 have hs1 : ¬ (0 : Int) < (v.s.length : Int) := by omega
 clear hk hs0
 clear ht hB h hg hwa hc hsz
 go_enter Tryz.func86, Tryz.ntmps86
 go_wp2_with fail
 rw [← HWE.out]
 go_wp2_with (first
  | (go_at_call 33; refine (HAT.out _).mono ?_; rintro e w1 ⟨rfl, hg1⟩; have b0 := cell_gb b0 hg1; have b1 := cell_gb b1 hg1; have b2 := cell_gb b2 hg1; have b3 := cell_gb b3 hg1; have HG1 := hide hg1; clear hg1)
  | (go_at_call 54; refine (HAB.out _).mono ?_; rintro e wq ⟨rfl, rfl⟩))
 go_loopw [3] (fun i wr => ∃ k : Nat, i = .int .i64 (k : Int) ∧ k ≤ v.n.length ∧ Hid (bitsV (v.n.take k) = true) ∧ w1 = wr) (fun i _ => v.n.length - (intOf i).toNat)
 case atStart => exact ⟨0, rfl, Nat.zero_le _, hide rfl, rfl⟩
 case round =>
  obtain ⟨k, rfl, hk, HK, rfl⟩ := hrel
  by_cases hlt : k < v.n.length
  ·have hlt1 : (k : Int) < (v.n.length : Int) := by omega
   obtain ⟨ad, rfl, _, hcell⟩ := HN.out.i64 hlt
   have hcell := cell_gb hcell HG1.out
   have HY := hide (fun h => bitsV_yes hlt HK.out h)
   have HNO := hide (fun h h' => bitsV_no hlt h h')
   obtain ⟨x, hx⟩ : ∃ x, x = v.n[k] := ⟨_, rfl⟩
   rw [← hx] at hcell HY HNO
   clear hx
   by_cases h0 : x = 0
   ·have q0 : (x != 0) = false := int_bne_t h0
    have HB := hide (HY.out (.inl h0))
    clear h0
    go_wp2_with fail
    go_roundw
    case rel => exact ⟨k + 1, by go_num, by omega, HB, trivial⟩
    case measure => simp [intOf]; omega
   ·have q0 : (x != 0) = true := int_bne_f h0
    by_cases h1 : x = 1
    ·have q1 : (x != 1) = false := int_bne_t h1
     have HB := hide (HY.out (.inr h1))
     clear h0 h1
     go_wp2_with fail
     go_roundw
     case rel => exact ⟨k + 1, by go_num, by omega, HB, trivial⟩
     case measure => simp [intOf]; omega
    ·have q1 : (x != 1) = true := int_bne_f h1
     have HB := hide (HNO.out h0 h1)
     clear h0 h1
     go_wp2_with fail
     go_ret
     exact ⟨ret_b HB.out.symm, gb_trans HG.out HG1.out (.inl rfl)⟩
  ·have hlt1 : ¬ (k : Int) < (v.n.length : Int) := by omega
   have HB := hide (show bitsV v.n = true by
    have h1 := HK.out
    rwa [List.take_of_length_le (by omega)] at h1)
   go_wp2_with fail
   go_loopw [4] (fun i wr => i = .int .i64 0 ∧ w1 = wr) (fun _ _ => 0)
   case atStart => exact ⟨rfl, rfl⟩
   case round =>
    obtain ⟨rfl, rfl⟩ := hrel
    go_wp2_with fail
    go_ret
    exact ⟨ret_b HB.out.symm, gb_trans HG.out HG1.out (.inl rfl)⟩
set_option maxHeartbeats 8000000 in
set_option maxRecDepth 100000 in
theorem plain_symV (v : Vl) (w : World) (B : Nat) (nA : Option Addr) (nc : Nat) (sA : Option Addr) (sc : Nat) (lA : Option Addr) (lc : Nat) (ht : v.tot ≤ 1200000000) (hsz : ∀ s ∈ v.s, s.size ≤ 1200000000) (hB : B ≤ w.heap.size) (h : VB w B v nA nc sA sc lA lc) (hA : rAtom v.t = false) (hk : rAbs v.t = 3) :
  Calls Tryz.prog 86 #[.agg #[.int .i64 v.t, .slice nA v.n.length nc, .slice sA v.s.length sc, .slice lA v.l.length lc]] w fun e w' => e = .returned (.bool (v.s.all symS)) ∧ w.grownBy w' none := by
 obtain ⟨l1, l2, l3, l4⟩ := Vl.lens v ht
 obtain ⟨wa, hwa⟩ : ∃ wa, wa = w.alloc (.cells #[.int .i64 v.t, .slice nA v.n.length nc, .slice sA v.s.length sc, .slice lA v.l.length lc] 26) := ⟨_, rfl⟩
 have hg : w.grownBy wa none := by rw [hwa]; exact gb_alloc (gb_refl w none) _
 have hc := C4.box w (.int .i64 v.t) (.slice nA v.n.length nc) (.slice sA v.s.length sc) (.slice lA v.l.length lc) 26
 rw [← hwa] at hc
 have b0 : wa.cell? ⟨w.heap.size, 0, none⟩ = some (.int .i64 v.t) := hc.c0
 have b1 : wa.cell? ⟨w.heap.size, 1, none⟩ = some (.slice nA v.n.length nc) := hc.c1
 have b2 : wa.cell? ⟨w.heap.size, 2, none⟩ = some (.slice sA v.s.length sc) := hc.c2
 have b3 : wa.cell? ⟨w.heap.size, 3, none⟩ = some (.slice lA v.l.length lc) := hc.c3
 have HV := hide (h.gb hg hB)
 have HG := hide hg
 have HWE := hide hwa
 have HSZ := hide hsz
 have HAT := hide (fun w2 : World => rAtom_any v.t (.slice nA v.n.length nc) (.slice sA v.s.length sc) (.slice lA v.l.length lc) w2)
 have HAB := hide (fun w2 : World => rAbs_any v.t w2)
 rw [hA] at HAT
 clear hA
 have hr := rAbs_small hk (by omega) (by omega)
 have e100 : (v.t == 100) = false := int_beq_f (by omega)
 have e0 : (v.t == 0) = false := int_beq_f (by omega)
 have e98 : (v.t == 98) = false := int_beq_f (by omega)
 have e99 : (v.t == 99) = false := int_beq_f (by omega)
 rw [hk] at HAB
 have HS := hide (h.gb hg hB).s
 clear hk hr
 clear ht hB h hg hwa hc hsz
 go_enter Tryz.func86, Tryz.ntmps86
 go_wp2_with fail
 rw [← HWE.out]
 go_wp2_with (first
  | (go_at_call 33; refine (HAT.out _).mono ?_; rintro e w1 ⟨rfl, hg1⟩; have b0 := cell_gb b0 hg1; have b1 := cell_gb b1 hg1; have b2 := cell_gb b2 hg1; have b3 := cell_gb b3 hg1; have HG1 := hide hg1; clear hg1)
  | (go_at_call 54; refine (HAB.out _).mono ?_; rintro e wq ⟨rfl, rfl⟩))
 go_loopw [4] (fun i wr => ∃ k : Nat, i = .int .i64 (k : Int) ∧ k ≤ v.s.length ∧ Hid ((v.s.take k).all symS = true) ∧ w1 = wr) (fun i _ => v.s.length - (intOf i).toNat)
 case atStart => exact ⟨0, rfl, Nat.zero_le _, hide rfl, rfl⟩
 case round =>
  obtain ⟨k, rfl, hk, HK, rfl⟩ := hrel
  by_cases hlt : k < v.s.length
  ·have hlt1 : (k : Int) < (v.s.length : Int) := by omega
   obtain ⟨ad, rfl, _, hcell⟩ := HS.out.str hlt
   have hcell := cell_gb hcell HG1.out
   have HSY := hide (fun w2 : World => rSymbol_ok v.s[k] w2 (HSZ.out _ (List.getElem_mem hlt)))
   have HY : Hid (symS v.s[k] = true → (v.s.take (k + 1)).all symS = true) := hide (fun h => by rw [List.take_succ_eq_append_getElem hlt, List.all_append, HK.out]; simp [h])
   have HNO : Hid (symS v.s[k] = false → v.s.all symS = false) := hide (fun h => by rw [List.all_eq_false]; exact ⟨_, List.getElem_mem hlt, by simp [h]⟩)
   obtain ⟨x, hx⟩ : ∃ x, x = v.s[k] := ⟨_, rfl⟩
   rw [← hx] at hcell HSY HY HNO
   clear hx
   cases hs : symS x with
   | true =>
    have HB := hide (HY.out hs)
    rw [hs] at HSY
    clear hs
    go_wp2_with (first
     | (go_at_call 54; refine (HAB.out _).mono ?_; rintro e wq ⟨rfl, rfl⟩)
     | (go_at_call 116; refine (HSY.out _).mono ?_; rintro e wq ⟨rfl, rfl⟩))
    go_roundw
    case rel => exact ⟨k + 1, by go_num, by omega, HB, trivial⟩
    case measure => simp [intOf]; omega
   | false =>
    have HB := hide (HNO.out hs)
    rw [hs] at HSY
    clear hs
    go_wp2_with (first
     | (go_at_call 54; refine (HAB.out _).mono ?_; rintro e wq ⟨rfl, rfl⟩)
     | (go_at_call 116; refine (HSY.out _).mono ?_; rintro e wq ⟨rfl, rfl⟩))
    go_ret
    exact ⟨ret_b HB.out.symm, gb_trans HG.out HG1.out (.inl rfl)⟩
  ·have hlt1 : ¬ (k : Int) < (v.s.length : Int) := by omega
   have HB := hide (show v.s.all symS = true by
    have h1 := HK.out
    rwa [List.take_of_length_le (by omega)] at h1)
   go_wp2_with fail
   go_ret
   exact ⟨ret_b HB.out.symm, gb_trans HG.out HG1.out (.inl rfl)⟩
set_option maxHeartbeats 8000000 in
set_option maxRecDepth 100000 in
theorem plain_nil (v : Vl) (w : World) (B : Nat) (nA : Option Addr) (nc : Nat) (sA : Option Addr) (sc : Nat) (lA : Option Addr) (lc : Nat) (ht : v.tot ≤ 1200000000) (hsz : ∀ s ∈ v.s, s.size ≤ 1200000000) (hB : B ≤ w.heap.size) (h : VB w B v nA nc sA sc lA lc) (ht0 : v.t = 101) (hs0 : v.s.length = 0) :
  Calls Tryz.prog 86 #[.agg #[.int .i64 v.t, .slice nA v.n.length nc, .slice sA v.s.length sc, .slice lA v.l.length lc]] w fun e w' => e = .returned (.bool (true)) ∧ w.grownBy w' none := by
 obtain ⟨l1, l2, l3, l4⟩ := Vl.lens v ht
 obtain ⟨wa, hwa⟩ : ∃ wa, wa = w.alloc (.cells #[.int .i64 v.t, .slice nA v.n.length nc, .slice sA v.s.length sc, .slice lA v.l.length lc] 26) := ⟨_, rfl⟩
 have hg : w.grownBy wa none := by rw [hwa]; exact gb_alloc (gb_refl w none) _
 have hc := C4.box w (.int .i64 v.t) (.slice nA v.n.length nc) (.slice sA v.s.length sc) (.slice lA v.l.length lc) 26
 rw [← hwa] at hc
 have b0 : wa.cell? ⟨w.heap.size, 0, none⟩ = some (.int .i64 v.t) := hc.c0
 have b1 : wa.cell? ⟨w.heap.size, 1, none⟩ = some (.slice nA v.n.length nc) := hc.c1
 have b2 : wa.cell? ⟨w.heap.size, 2, none⟩ = some (.slice sA v.s.length sc) := hc.c2
 have b3 : wa.cell? ⟨w.heap.size, 3, none⟩ = some (.slice lA v.l.length lc) := hc.c3
 have HV := hide (h.gb hg hB)
 have HG := hide hg
 have HWE := hide hwa
 have HSZ := hide hsz
 have HAT := hide (fun w2 : World => rAtom_any v.t (.slice nA v.n.length nc) (.slice sA v.s.length sc) (.slice lA v.l.length lc) w2)
 have HAB := hide (fun w2 : World => rAbs_any v.t w2)
 have ea : rAtom v.t = false := by rw [ht0]; rfl
 have eb : rAbs v.t = 101 := by rw [ht0]; rfl
 have e100 : (v.t == 100) = false := int_beq_f (by omega)
 have e0 : (v.t == 0) = false := int_beq_f (by omega)
 have e98 : (v.t == 98) = false := int_beq_f (by omega)
 have e99 : (v.t == 99) = false := int_beq_f (by omega)
 rw [ea] at HAT
 rw [eb] at HAB
 have hs1 : ¬ (0 : Int) < (v.s.length : Int) := by omega
 clear ht0 ea eb hs0
 clear ht hB h hg hwa hc hsz
 go_enter Tryz.func86, Tryz.ntmps86
 go_wp2_with fail
 rw [← HWE.out]
 go_wp2_with (first
  | (go_at_call 33; refine (HAT.out _).mono ?_; rintro e w1 ⟨rfl, hg1⟩; have b0 := cell_gb b0 hg1; have b1 := cell_gb b1 hg1; have b2 := cell_gb b2 hg1; have b3 := cell_gb b3 hg1; have HG1 := hide hg1; clear hg1)
  | (go_at_call 54; refine (HAB.out _).mono ?_; rintro e wq ⟨rfl, rfl⟩))
 go_loopw [4] (fun i wr => i = .int .i64 0 ∧ w1 = wr) (fun _ _ => 0)
 case atStart => exact ⟨rfl, rfl⟩
 case round =>
  obtain ⟨rfl, rfl⟩ := hrel
  go_wp2_with fail
  go_ret
  exact ⟨rfl, gb_trans HG.out HG1.out (.inl rfl)⟩
end Go.Proofs.YtbmgodmfpoappaaGreat
/- The document's own plain, type by type: lambdas, dictionaries. -/
namespace Go.Proofs.YtbmgodmfpoappaaGreat
open Go.RowKit
attribute [local go_sem ↓] Go.wp_at_zero Go.wp_at_succ
set_option maxHeartbeats 8000000 in
set_option maxRecDepth 100000 in
theorem plain_dict0 (v : Vl) (w : World) (B : Nat) (nA : Option Addr) (nc : Nat) (sA : Option Addr) (sc : Nat) (lA : Option Addr) (lc : Nat) (ht : v.tot ≤ 1200000000) (hsz : ∀ s ∈ v.s, s.size ≤ 1200000000) (hB : B ≤ w.heap.size) (h : VB w B v nA nc sA sc lA lc) (ht0 : v.t = 99) (h2 : v.l.length ≠ 2) :
  Calls Tryz.prog 86 #[.agg #[.int .i64 v.t, .slice nA v.n.length nc, .slice sA v.s.length sc, .slice lA v.l.length lc]] w fun e w' => e = .returned (.bool (false)) ∧ w.grownBy w' none := by
 obtain ⟨l1, l2, l3, l4⟩ := Vl.lens v ht
 obtain ⟨wa, hwa⟩ : ∃ wa, wa = w.alloc (.cells #[.int .i64 v.t, .slice nA v.n.length nc, .slice sA v.s.length sc, .slice lA v.l.length lc] 26) := ⟨_, rfl⟩
 have hg : w.grownBy wa none := by rw [hwa]; exact gb_alloc (gb_refl w none) _
 have hc := C4.box w (.int .i64 v.t) (.slice nA v.n.length nc) (.slice sA v.s.length sc) (.slice lA v.l.length lc) 26
 rw [← hwa] at hc
 have b0 : wa.cell? ⟨w.heap.size, 0, none⟩ = some (.int .i64 v.t) := hc.c0
 have b1 : wa.cell? ⟨w.heap.size, 1, none⟩ = some (.slice nA v.n.length nc) := hc.c1
 have b2 : wa.cell? ⟨w.heap.size, 2, none⟩ = some (.slice sA v.s.length sc) := hc.c2
 have b3 : wa.cell? ⟨w.heap.size, 3, none⟩ = some (.slice lA v.l.length lc) := hc.c3
 have HV := hide (h.gb hg hB)
 have HG := hide hg
 have HWE := hide hwa
 have HSZ := hide hsz
 have HAT := hide (fun w2 : World => rAtom_any v.t (.slice nA v.n.length nc) (.slice sA v.s.length sc) (.slice lA v.l.length lc) w2)
 have HAB := hide (fun w2 : World => rAbs_any v.t w2)
 have ea : rAtom v.t = false := by rw [ht0]; rfl
 have eb : rAbs v.t = 99 := by rw [ht0]; rfl
 have e100 : (v.t == 100) = false := int_beq_f (by omega)
 have e0 : (v.t == 0) = false := int_beq_f (by omega)
 have e98 : (v.t == 98) = false := int_beq_f (by omega)
 have e99 : (v.t == 99) = true := int_beq_t ht0
 rw [ea] at HAT
 rw [eb] at HAB
 clear ht0 ea eb
 have q2 : ((v.l.length : Int) == 2) = false := int_beq_f (by omega)
 clear h2
 clear ht hB h hg hwa hc hsz
 go_enter Tryz.func86, Tryz.ntmps86
 go_wp2_with fail
 rw [← HWE.out]
 go_wp2_with (first
  | (go_at_call 33; refine (HAT.out _).mono ?_; rintro e w1 ⟨rfl, hg1⟩; have b0 := cell_gb b0 hg1; have b1 := cell_gb b1 hg1; have b2 := cell_gb b2 hg1; have b3 := cell_gb b3 hg1; have HG1 := hide hg1; clear hg1)
  | (go_at_call 54; refine (HAB.out _).mono ?_; rintro e wq ⟨rfl, rfl⟩))
 go_ret
 exact ⟨rfl, gb_trans HG.out HG1.out (.inl rfl)⟩
set_option maxHeartbeats 8000000 in
set_option maxRecDepth 100000 in
theorem plain_dictCC (v : Vl) (w : World) (B : Nat) (nA : Option Addr) (nc : Nat) (sA : Option Addr) (sc : Nat) (lA : Option Addr) (lc : Nat) (ht : v.tot ≤ 1200000000) (hsz : ∀ s ∈ v.s, s.size ≤ 1200000000) (hB : B ≤ w.heap.size) (h : VB w B v nA nc sA sc lA lc) (ht0 : v.t = 99) (a b : Vl) (hl : v.l = [a, b]) (k0 : rCol a.t = true) (k1 : rCol b.t = true) :
  Calls Tryz.prog 86 #[.agg #[.int .i64 v.t, .slice nA v.n.length nc, .slice sA v.s.length sc, .slice lA v.l.length lc]] w fun e w' => e = .returned (.bool (true)) ∧ w.grownBy w' none := by
 obtain ⟨l1, l2, l3, l4⟩ := Vl.lens v ht
 obtain ⟨wa, hwa⟩ : ∃ wa, wa = w.alloc (.cells #[.int .i64 v.t, .slice nA v.n.length nc, .slice sA v.s.length sc, .slice lA v.l.length lc] 26) := ⟨_, rfl⟩
 have hg : w.grownBy wa none := by rw [hwa]; exact gb_alloc (gb_refl w none) _
 have hc := C4.box w (.int .i64 v.t) (.slice nA v.n.length nc) (.slice sA v.s.length sc) (.slice lA v.l.length lc) 26
 rw [← hwa] at hc
 have b0 : wa.cell? ⟨w.heap.size, 0, none⟩ = some (.int .i64 v.t) := hc.c0
 have b1 : wa.cell? ⟨w.heap.size, 1, none⟩ = some (.slice nA v.n.length nc) := hc.c1
 have b2 : wa.cell? ⟨w.heap.size, 2, none⟩ = some (.slice sA v.s.length sc) := hc.c2
 have b3 : wa.cell? ⟨w.heap.size, 3, none⟩ = some (.slice lA v.l.length lc) := hc.c3
 have HV := hide (h.gb hg hB)
 have HG := hide hg
 have HWE := hide hwa
 have HSZ := hide hsz
 have HAT := hide (fun w2 : World => rAtom_any v.t (.slice nA v.n.length nc) (.slice sA v.s.length sc) (.slice lA v.l.length lc) w2)
 have HAB := hide (fun w2 : World => rAbs_any v.t w2)
 have ea : rAtom v.t = false := by rw [ht0]; rfl
 have eb : rAbs v.t = 99 := by rw [ht0]; rfl
 have e100 : (v.t == 100) = false := int_beq_f (by omega)
 have e0 : (v.t == 0) = false := int_beq_f (by omega)
 have e98 : (v.t == 98) = false := int_beq_f (by omega)
 have e99 : (v.t == 99) = true := int_beq_t ht0
 rw [ea] at HAT
 rw [eb] at HAB
 clear ht0 ea eb
 have h2 : v.l.length = 2 := by rw [hl]; rfl
 have q2 : ((v.l.length : Int) == 2) = true := int_beq_t (by rw [h2]; rfl)
 have hl0 : (0 : Int) < (v.l.length : Int) := by omega
 have hl1 : (1 : Int) < (v.l.length : Int) := by omega
 have hRV := (h.gb hg hB).l
 rw [hl] at hRV
 obtain ⟨q, o, xA, xc, yA, yc, zA, zc, hlA, hqB, hc4, _⟩ := hRV.at_ (i := 0) (by simp)
 obtain ⟨q', o', xA', xc', yA', yc', zA', zc', hlA', _, hc5, _⟩ := hRV.at_ (i := 1) (by simp)
 subst hlA
 cases hlA'
 obtain ⟨d0, d1, d2, d3⟩ := hc4
 obtain ⟨f0, f1, f2, f3⟩ := hc5
 have d0 : wa.cell? ⟨q, o, none⟩ = some (.int .i64 a.t) := by simpa using d0
 have d1 : wa.cell? ⟨q, o + 1, none⟩ = some (.slice xA a.n.length xc) := by simpa using d1
 have d2 : wa.cell? ⟨q, o + 2, none⟩ = some (.slice yA a.s.length yc) := by simpa using d2
 have d3 : wa.cell? ⟨q, o + 3, none⟩ = some (.slice zA a.l.length zc) := by simpa using d3
 have f0 : wa.cell? ⟨q, o + 4, none⟩ = some (.int .i64 b.t) := by simpa using f0
 have f1 : wa.cell? ⟨q, o + 4 + 1, none⟩ = some (.slice xA' b.n.length xc') := by simpa using f1
 have f2 : wa.cell? ⟨q, o + 4 + 2, none⟩ = some (.slice yA' b.s.length yc') := by simpa using f2
 have f3 : wa.cell? ⟨q, o + 4 + 3, none⟩ = some (.slice zA' b.l.length zc') := by simpa using f3
 have HC0 := hide (fun w2 : World => rCol_any a.t (.slice xA a.n.length xc) (.slice yA a.s.length yc) (.slice zA a.l.length zc) w2)
 have HC1 := hide (fun w2 : World => rCol_any b.t (.slice xA' b.n.length xc') (.slice yA' b.s.length yc') (.slice zA' b.l.length zc') w2)
 have HGWA := hide (fun (w2 : World) (k : wa.grownBy w2 none) => And.intro (And.intro (cell_gb d0 k) (And.intro (cell_gb d1 k) (And.intro (cell_gb d2 k) (cell_gb d3 k)))) (And.intro (cell_gb f0 k) (And.intro (cell_gb f1 k) (And.intro (cell_gb f2 k) (cell_gb f3 k)))))
 clear h2 hl hRV
 rw [k0] at HC0
 rw [k1] at HC1
 clear k0 k1
 clear ht hB h hg hwa hc hsz
 go_enter Tryz.func86, Tryz.ntmps86
 go_wp2_with fail
 rw [← HWE.out]
 go_wp2_with (first
  | (go_at_call 33; refine (HAT.out _).mono ?_; rintro e w1 ⟨rfl, hg1⟩; have b0 := cell_gb b0 hg1; have b1 := cell_gb b1 hg1; have b2 := cell_gb b2 hg1; have b3 := cell_gb b3 hg1; have HG1 := hide hg1; clear hg1; obtain ⟨⟨d0, d1, d2, d3⟩, f0, f1, f2, f3⟩ := HGWA.out _ HG1.out)
  | (go_at_call 54; refine (HAB.out _).mono ?_; rintro e wq ⟨rfl, rfl⟩)
  | (go_at_call 115; (with_reducible refine (HC0.out _).mono ?_); rintro e w2 ⟨rfl, hg2⟩; have b3 := cell_gb b3 hg2; have HG2 := hide (gb_trans HG1.out hg2 (.inl rfl)); clear hg2; obtain ⟨⟨d0, d1, d2, d3⟩, f0, f1, f2, f3⟩ := HGWA.out _ HG2.out)
  | (go_at_call 115; (with_reducible refine (HC1.out _).mono ?_); rintro e w3 ⟨rfl, hg3⟩; have b3 := cell_gb b3 hg3; have HG3 := hide (gb_trans HG2.out hg3 (.inl rfl)); clear hg3; obtain ⟨⟨d0, d1, d2, d3⟩, f0, f1, f2, f3⟩ := HGWA.out _ HG3.out))
 go_ret
 exact ⟨rfl, gb_trans HG.out HG3.out (.inl rfl)⟩
set_option maxHeartbeats 8000000 in
set_option maxRecDepth 100000 in
theorem plain_dictCNTT (v : Vl) (w : World) (B : Nat) (nA : Option Addr) (nc : Nat) (sA : Option Addr) (sc : Nat) (lA : Option Addr) (lc : Nat) (ht : v.tot ≤ 1200000000) (hsz : ∀ s ∈ v.s, s.size ≤ 1200000000) (hB : B ≤ w.heap.size) (h : VB w B v nA nc sA sc lA lc) (ht0 : v.t = 99) (a b : Vl) (hl : v.l = [a, b]) (k0 : rCol a.t = true) (k1 : rCol b.t = false) (t0 : a.t = 98) (t1 : b.t = 98) :
  Calls Tryz.prog 86 #[.agg #[.int .i64 v.t, .slice nA v.n.length nc, .slice sA v.s.length sc, .slice lA v.l.length lc]] w fun e w' => e = .returned (.bool (true)) ∧ w.grownBy w' none := by
 obtain ⟨l1, l2, l3, l4⟩ := Vl.lens v ht
 obtain ⟨wa, hwa⟩ : ∃ wa, wa = w.alloc (.cells #[.int .i64 v.t, .slice nA v.n.length nc, .slice sA v.s.length sc, .slice lA v.l.length lc] 26) := ⟨_, rfl⟩
 have hg : w.grownBy wa none := by rw [hwa]; exact gb_alloc (gb_refl w none) _
 have hc := C4.box w (.int .i64 v.t) (.slice nA v.n.length nc) (.slice sA v.s.length sc) (.slice lA v.l.length lc) 26
 rw [← hwa] at hc
 have b0 : wa.cell? ⟨w.heap.size, 0, none⟩ = some (.int .i64 v.t) := hc.c0
 have b1 : wa.cell? ⟨w.heap.size, 1, none⟩ = some (.slice nA v.n.length nc) := hc.c1
 have b2 : wa.cell? ⟨w.heap.size, 2, none⟩ = some (.slice sA v.s.length sc) := hc.c2
 have b3 : wa.cell? ⟨w.heap.size, 3, none⟩ = some (.slice lA v.l.length lc) := hc.c3
 have HV := hide (h.gb hg hB)
 have HG := hide hg
 have HWE := hide hwa
 have HSZ := hide hsz
 have HAT := hide (fun w2 : World => rAtom_any v.t (.slice nA v.n.length nc) (.slice sA v.s.length sc) (.slice lA v.l.length lc) w2)
 have HAB := hide (fun w2 : World => rAbs_any v.t w2)
 have ea : rAtom v.t = false := by rw [ht0]; rfl
 have eb : rAbs v.t = 99 := by rw [ht0]; rfl
 have e100 : (v.t == 100) = false := int_beq_f (by omega)
 have e0 : (v.t == 0) = false := int_beq_f (by omega)
 have e98 : (v.t == 98) = false := int_beq_f (by omega)
 have e99 : (v.t == 99) = true := int_beq_t ht0
 rw [ea] at HAT
 rw [eb] at HAB
 clear ht0 ea eb
 have h2 : v.l.length = 2 := by rw [hl]; rfl
 have q2 : ((v.l.length : Int) == 2) = true := int_beq_t (by rw [h2]; rfl)
 have hl0 : (0 : Int) < (v.l.length : Int) := by omega
 have hl1 : (1 : Int) < (v.l.length : Int) := by omega
 have hRV := (h.gb hg hB).l
 rw [hl] at hRV
 obtain ⟨q, o, xA, xc, yA, yc, zA, zc, hlA, hqB, hc4, _⟩ := hRV.at_ (i := 0) (by simp)
 obtain ⟨q', o', xA', xc', yA', yc', zA', zc', hlA', _, hc5, _⟩ := hRV.at_ (i := 1) (by simp)
 subst hlA
 cases hlA'
 obtain ⟨d0, d1, d2, d3⟩ := hc4
 obtain ⟨f0, f1, f2, f3⟩ := hc5
 have d0 : wa.cell? ⟨q, o, none⟩ = some (.int .i64 a.t) := by simpa using d0
 have d1 : wa.cell? ⟨q, o + 1, none⟩ = some (.slice xA a.n.length xc) := by simpa using d1
 have d2 : wa.cell? ⟨q, o + 2, none⟩ = some (.slice yA a.s.length yc) := by simpa using d2
 have d3 : wa.cell? ⟨q, o + 3, none⟩ = some (.slice zA a.l.length zc) := by simpa using d3
 have f0 : wa.cell? ⟨q, o + 4, none⟩ = some (.int .i64 b.t) := by simpa using f0
 have f1 : wa.cell? ⟨q, o + 4 + 1, none⟩ = some (.slice xA' b.n.length xc') := by simpa using f1
 have f2 : wa.cell? ⟨q, o + 4 + 2, none⟩ = some (.slice yA' b.s.length yc') := by simpa using f2
 have f3 : wa.cell? ⟨q, o + 4 + 3, none⟩ = some (.slice zA' b.l.length zc') := by simpa using f3
 have HC0 := hide (fun w2 : World => rCol_any a.t (.slice xA a.n.length xc) (.slice yA a.s.length yc) (.slice zA a.l.length zc) w2)
 have HC1 := hide (fun w2 : World => rCol_any b.t (.slice xA' b.n.length xc') (.slice yA' b.s.length yc') (.slice zA' b.l.length zc') w2)
 have HGWA := hide (fun (w2 : World) (k : wa.grownBy w2 none) => And.intro (And.intro (cell_gb d0 k) (And.intro (cell_gb d1 k) (And.intro (cell_gb d2 k) (cell_gb d3 k)))) (And.intro (cell_gb f0 k) (And.intro (cell_gb f1 k) (And.intro (cell_gb f2 k) (cell_gb f3 k)))))
 clear h2 hl hRV
 rw [k0] at HC0
 rw [k1] at HC1
 have q0 : (a.t == 98) = true := int_beq_t t0
 have q1 : (b.t == 98) = true := int_beq_t t1
 clear k0 k1 t0 t1
 clear ht hB h hg hwa hc hsz
 go_enter Tryz.func86, Tryz.ntmps86
 go_wp2_with fail
 rw [← HWE.out]
 go_wp2_with (first
  | (go_at_call 33; refine (HAT.out _).mono ?_; rintro e w1 ⟨rfl, hg1⟩; have b0 := cell_gb b0 hg1; have b1 := cell_gb b1 hg1; have b2 := cell_gb b2 hg1; have b3 := cell_gb b3 hg1; have HG1 := hide hg1; clear hg1; obtain ⟨⟨d0, d1, d2, d3⟩, f0, f1, f2, f3⟩ := HGWA.out _ HG1.out)
  | (go_at_call 54; refine (HAB.out _).mono ?_; rintro e wq ⟨rfl, rfl⟩)
  | (go_at_call 115; (with_reducible refine (HC0.out _).mono ?_); rintro e w2 ⟨rfl, hg2⟩; have b3 := cell_gb b3 hg2; have HG2 := hide (gb_trans HG1.out hg2 (.inl rfl)); clear hg2; obtain ⟨⟨d0, d1, d2, d3⟩, f0, f1, f2, f3⟩ := HGWA.out _ HG2.out)
  | (go_at_call 115; (with_reducible refine (HC1.out _).mono ?_); rintro e w3 ⟨rfl, hg3⟩; have b3 := cell_gb b3 hg3; have HG3 := hide (gb_trans HG2.out hg3 (.inl rfl)); clear hg3; obtain ⟨⟨d0, d1, d2, d3⟩, f0, f1, f2, f3⟩ := HGWA.out _ HG3.out))
 go_ret
 exact ⟨rfl, gb_trans HG.out HG3.out (.inl rfl)⟩
set_option maxHeartbeats 8000000 in
set_option maxRecDepth 100000 in
theorem plain_dictCNTN (v : Vl) (w : World) (B : Nat) (nA : Option Addr) (nc : Nat) (sA : Option Addr) (sc : Nat) (lA : Option Addr) (lc : Nat) (ht : v.tot ≤ 1200000000) (hsz : ∀ s ∈ v.s, s.size ≤ 1200000000) (hB : B ≤ w.heap.size) (h : VB w B v nA nc sA sc lA lc) (ht0 : v.t = 99) (a b : Vl) (hl : v.l = [a, b]) (k0 : rCol a.t = true) (k1 : rCol b.t = false) (t0 : a.t = 98) (t1 : b.t ≠ 98) :
  Calls Tryz.prog 86 #[.agg #[.int .i64 v.t, .slice nA v.n.length nc, .slice sA v.s.length sc, .slice lA v.l.length lc]] w fun e w' => e = .returned (.bool (false)) ∧ w.grownBy w' none := by
 obtain ⟨l1, l2, l3, l4⟩ := Vl.lens v ht
 obtain ⟨wa, hwa⟩ : ∃ wa, wa = w.alloc (.cells #[.int .i64 v.t, .slice nA v.n.length nc, .slice sA v.s.length sc, .slice lA v.l.length lc] 26) := ⟨_, rfl⟩
 have hg : w.grownBy wa none := by rw [hwa]; exact gb_alloc (gb_refl w none) _
 have hc := C4.box w (.int .i64 v.t) (.slice nA v.n.length nc) (.slice sA v.s.length sc) (.slice lA v.l.length lc) 26
 rw [← hwa] at hc
 have b0 : wa.cell? ⟨w.heap.size, 0, none⟩ = some (.int .i64 v.t) := hc.c0
 have b1 : wa.cell? ⟨w.heap.size, 1, none⟩ = some (.slice nA v.n.length nc) := hc.c1
 have b2 : wa.cell? ⟨w.heap.size, 2, none⟩ = some (.slice sA v.s.length sc) := hc.c2
 have b3 : wa.cell? ⟨w.heap.size, 3, none⟩ = some (.slice lA v.l.length lc) := hc.c3
 have HV := hide (h.gb hg hB)
 have HG := hide hg
 have HWE := hide hwa
 have HSZ := hide hsz
 have HAT := hide (fun w2 : World => rAtom_any v.t (.slice nA v.n.length nc) (.slice sA v.s.length sc) (.slice lA v.l.length lc) w2)
 have HAB := hide (fun w2 : World => rAbs_any v.t w2)
 have ea : rAtom v.t = false := by rw [ht0]; rfl
 have eb : rAbs v.t = 99 := by rw [ht0]; rfl
 have e100 : (v.t == 100) = false := int_beq_f (by omega)
 have e0 : (v.t == 0) = false := int_beq_f (by omega)
 have e98 : (v.t == 98) = false := int_beq_f (by omega)
 have e99 : (v.t == 99) = true := int_beq_t ht0
 rw [ea] at HAT
 rw [eb] at HAB
 clear ht0 ea eb
 have h2 : v.l.length = 2 := by rw [hl]; rfl
 have q2 : ((v.l.length : Int) == 2) = true := int_beq_t (by rw [h2]; rfl)
 have hl0 : (0 : Int) < (v.l.length : Int) := by omega
 have hl1 : (1 : Int) < (v.l.length : Int) := by omega
 have hRV := (h.gb hg hB).l
 rw [hl] at hRV
 obtain ⟨q, o, xA, xc, yA, yc, zA, zc, hlA, hqB, hc4, _⟩ := hRV.at_ (i := 0) (by simp)
 obtain ⟨q', o', xA', xc', yA', yc', zA', zc', hlA', _, hc5, _⟩ := hRV.at_ (i := 1) (by simp)
 subst hlA
 cases hlA'
 obtain ⟨d0, d1, d2, d3⟩ := hc4
 obtain ⟨f0, f1, f2, f3⟩ := hc5
 have d0 : wa.cell? ⟨q, o, none⟩ = some (.int .i64 a.t) := by simpa using d0
 have d1 : wa.cell? ⟨q, o + 1, none⟩ = some (.slice xA a.n.length xc) := by simpa using d1
 have d2 : wa.cell? ⟨q, o + 2, none⟩ = some (.slice yA a.s.length yc) := by simpa using d2
 have d3 : wa.cell? ⟨q, o + 3, none⟩ = some (.slice zA a.l.length zc) := by simpa using d3
 have f0 : wa.cell? ⟨q, o + 4, none⟩ = some (.int .i64 b.t) := by simpa using f0
 have f1 : wa.cell? ⟨q, o + 4 + 1, none⟩ = some (.slice xA' b.n.length xc') := by simpa using f1
 have f2 : wa.cell? ⟨q, o + 4 + 2, none⟩ = some (.slice yA' b.s.length yc') := by simpa using f2
 have f3 : wa.cell? ⟨q, o + 4 + 3, none⟩ = some (.slice zA' b.l.length zc') := by simpa using f3
 have HC0 := hide (fun w2 : World => rCol_any a.t (.slice xA a.n.length xc) (.slice yA a.s.length yc) (.slice zA a.l.length zc) w2)
 have HC1 := hide (fun w2 : World => rCol_any b.t (.slice xA' b.n.length xc') (.slice yA' b.s.length yc') (.slice zA' b.l.length zc') w2)
 have HGWA := hide (fun (w2 : World) (k : wa.grownBy w2 none) => And.intro (And.intro (cell_gb d0 k) (And.intro (cell_gb d1 k) (And.intro (cell_gb d2 k) (cell_gb d3 k)))) (And.intro (cell_gb f0 k) (And.intro (cell_gb f1 k) (And.intro (cell_gb f2 k) (cell_gb f3 k)))))
 clear h2 hl hRV
 rw [k0] at HC0
 rw [k1] at HC1
 have q0 : (a.t == 98) = true := int_beq_t t0
 have q1 : (b.t == 98) = false := int_beq_f t1
 clear k0 k1 t0 t1
 clear ht hB h hg hwa hc hsz
 go_enter Tryz.func86, Tryz.ntmps86
 go_wp2_with fail
 rw [← HWE.out]
 go_wp2_with (first
  | (go_at_call 33; refine (HAT.out _).mono ?_; rintro e w1 ⟨rfl, hg1⟩; have b0 := cell_gb b0 hg1; have b1 := cell_gb b1 hg1; have b2 := cell_gb b2 hg1; have b3 := cell_gb b3 hg1; have HG1 := hide hg1; clear hg1; obtain ⟨⟨d0, d1, d2, d3⟩, f0, f1, f2, f3⟩ := HGWA.out _ HG1.out)
  | (go_at_call 54; refine (HAB.out _).mono ?_; rintro e wq ⟨rfl, rfl⟩)
  | (go_at_call 115; (with_reducible refine (HC0.out _).mono ?_); rintro e w2 ⟨rfl, hg2⟩; have b3 := cell_gb b3 hg2; have HG2 := hide (gb_trans HG1.out hg2 (.inl rfl)); clear hg2; obtain ⟨⟨d0, d1, d2, d3⟩, f0, f1, f2, f3⟩ := HGWA.out _ HG2.out)
  | (go_at_call 115; (with_reducible refine (HC1.out _).mono ?_); rintro e w3 ⟨rfl, hg3⟩; have b3 := cell_gb b3 hg3; have HG3 := hide (gb_trans HG2.out hg3 (.inl rfl)); clear hg3; obtain ⟨⟨d0, d1, d2, d3⟩, f0, f1, f2, f3⟩ := HGWA.out _ HG3.out))
 go_ret
 exact ⟨rfl, gb_trans HG.out HG3.out (.inl rfl)⟩
set_option maxHeartbeats 8000000 in
set_option maxRecDepth 100000 in
theorem plain_dictCNNT (v : Vl) (w : World) (B : Nat) (nA : Option Addr) (nc : Nat) (sA : Option Addr) (sc : Nat) (lA : Option Addr) (lc : Nat) (ht : v.tot ≤ 1200000000) (hsz : ∀ s ∈ v.s, s.size ≤ 1200000000) (hB : B ≤ w.heap.size) (h : VB w B v nA nc sA sc lA lc) (ht0 : v.t = 99) (a b : Vl) (hl : v.l = [a, b]) (k0 : rCol a.t = true) (k1 : rCol b.t = false) (t0 : a.t ≠ 98) :
  Calls Tryz.prog 86 #[.agg #[.int .i64 v.t, .slice nA v.n.length nc, .slice sA v.s.length sc, .slice lA v.l.length lc]] w fun e w' => e = .returned (.bool (false)) ∧ w.grownBy w' none := by
 obtain ⟨l1, l2, l3, l4⟩ := Vl.lens v ht
 obtain ⟨wa, hwa⟩ : ∃ wa, wa = w.alloc (.cells #[.int .i64 v.t, .slice nA v.n.length nc, .slice sA v.s.length sc, .slice lA v.l.length lc] 26) := ⟨_, rfl⟩
 have hg : w.grownBy wa none := by rw [hwa]; exact gb_alloc (gb_refl w none) _
 have hc := C4.box w (.int .i64 v.t) (.slice nA v.n.length nc) (.slice sA v.s.length sc) (.slice lA v.l.length lc) 26
 rw [← hwa] at hc
 have b0 : wa.cell? ⟨w.heap.size, 0, none⟩ = some (.int .i64 v.t) := hc.c0
 have b1 : wa.cell? ⟨w.heap.size, 1, none⟩ = some (.slice nA v.n.length nc) := hc.c1
 have b2 : wa.cell? ⟨w.heap.size, 2, none⟩ = some (.slice sA v.s.length sc) := hc.c2
 have b3 : wa.cell? ⟨w.heap.size, 3, none⟩ = some (.slice lA v.l.length lc) := hc.c3
 have HV := hide (h.gb hg hB)
 have HG := hide hg
 have HWE := hide hwa
 have HSZ := hide hsz
 have HAT := hide (fun w2 : World => rAtom_any v.t (.slice nA v.n.length nc) (.slice sA v.s.length sc) (.slice lA v.l.length lc) w2)
 have HAB := hide (fun w2 : World => rAbs_any v.t w2)
 have ea : rAtom v.t = false := by rw [ht0]; rfl
 have eb : rAbs v.t = 99 := by rw [ht0]; rfl
 have e100 : (v.t == 100) = false := int_beq_f (by omega)
 have e0 : (v.t == 0) = false := int_beq_f (by omega)
 have e98 : (v.t == 98) = false := int_beq_f (by omega)
 have e99 : (v.t == 99) = true := int_beq_t ht0
 rw [ea] at HAT
 rw [eb] at HAB
 clear ht0 ea eb
 have h2 : v.l.length = 2 := by rw [hl]; rfl
 have q2 : ((v.l.length : Int) == 2) = true := int_beq_t (by rw [h2]; rfl)
 have hl0 : (0 : Int) < (v.l.length : Int) := by omega
 have hl1 : (1 : Int) < (v.l.length : Int) := by omega
 have hRV := (h.gb hg hB).l
 rw [hl] at hRV
 obtain ⟨q, o, xA, xc, yA, yc, zA, zc, hlA, hqB, hc4, _⟩ := hRV.at_ (i := 0) (by simp)
 obtain ⟨q', o', xA', xc', yA', yc', zA', zc', hlA', _, hc5, _⟩ := hRV.at_ (i := 1) (by simp)
 subst hlA
 cases hlA'
 obtain ⟨d0, d1, d2, d3⟩ := hc4
 obtain ⟨f0, f1, f2, f3⟩ := hc5
 have d0 : wa.cell? ⟨q, o, none⟩ = some (.int .i64 a.t) := by simpa using d0
 have d1 : wa.cell? ⟨q, o + 1, none⟩ = some (.slice xA a.n.length xc) := by simpa using d1
 have d2 : wa.cell? ⟨q, o + 2, none⟩ = some (.slice yA a.s.length yc) := by simpa using d2
 have d3 : wa.cell? ⟨q, o + 3, none⟩ = some (.slice zA a.l.length zc) := by simpa using d3
 have f0 : wa.cell? ⟨q, o + 4, none⟩ = some (.int .i64 b.t) := by simpa using f0
 have f1 : wa.cell? ⟨q, o + 4 + 1, none⟩ = some (.slice xA' b.n.length xc') := by simpa using f1
 have f2 : wa.cell? ⟨q, o + 4 + 2, none⟩ = some (.slice yA' b.s.length yc') := by simpa using f2
 have f3 : wa.cell? ⟨q, o + 4 + 3, none⟩ = some (.slice zA' b.l.length zc') := by simpa using f3
 have HC0 := hide (fun w2 : World => rCol_any a.t (.slice xA a.n.length xc) (.slice yA a.s.length yc) (.slice zA a.l.length zc) w2)
 have HC1 := hide (fun w2 : World => rCol_any b.t (.slice xA' b.n.length xc') (.slice yA' b.s.length yc') (.slice zA' b.l.length zc') w2)
 have HGWA := hide (fun (w2 : World) (k : wa.grownBy w2 none) => And.intro (And.intro (cell_gb d0 k) (And.intro (cell_gb d1 k) (And.intro (cell_gb d2 k) (cell_gb d3 k)))) (And.intro (cell_gb f0 k) (And.intro (cell_gb f1 k) (And.intro (cell_gb f2 k) (cell_gb f3 k)))))
 clear h2 hl hRV
 rw [k0] at HC0
 rw [k1] at HC1
 have q0 : (a.t == 98) = false := int_beq_f t0
 clear k0 k1 t0
 clear ht hB h hg hwa hc hsz
 go_enter Tryz.func86, Tryz.ntmps86
 go_wp2_with fail
 rw [← HWE.out]
 go_wp2_with (first
  | (go_at_call 33; refine (HAT.out _).mono ?_; rintro e w1 ⟨rfl, hg1⟩; have b0 := cell_gb b0 hg1; have b1 := cell_gb b1 hg1; have b2 := cell_gb b2 hg1; have b3 := cell_gb b3 hg1; have HG1 := hide hg1; clear hg1; obtain ⟨⟨d0, d1, d2, d3⟩, f0, f1, f2, f3⟩ := HGWA.out _ HG1.out)
  | (go_at_call 54; refine (HAB.out _).mono ?_; rintro e wq ⟨rfl, rfl⟩)
  | (go_at_call 115; (with_reducible refine (HC0.out _).mono ?_); rintro e w2 ⟨rfl, hg2⟩; have b3 := cell_gb b3 hg2; have HG2 := hide (gb_trans HG1.out hg2 (.inl rfl)); clear hg2; obtain ⟨⟨d0, d1, d2, d3⟩, f0, f1, f2, f3⟩ := HGWA.out _ HG2.out)
  | (go_at_call 115; (with_reducible refine (HC1.out _).mono ?_); rintro e w3 ⟨rfl, hg3⟩; have b3 := cell_gb b3 hg3; have HG3 := hide (gb_trans HG2.out hg3 (.inl rfl)); clear hg3; obtain ⟨⟨d0, d1, d2, d3⟩, f0, f1, f2, f3⟩ := HGWA.out _ HG3.out))
 go_ret
 exact ⟨rfl, gb_trans HG.out HG3.out (.inl rfl)⟩
set_option maxHeartbeats 8000000 in
set_option maxRecDepth 100000 in
theorem plain_dictNTT (v : Vl) (w : World) (B : Nat) (nA : Option Addr) (nc : Nat) (sA : Option Addr) (sc : Nat) (lA : Option Addr) (lc : Nat) (ht : v.tot ≤ 1200000000) (hsz : ∀ s ∈ v.s, s.size ≤ 1200000000) (hB : B ≤ w.heap.size) (h : VB w B v nA nc sA sc lA lc) (ht0 : v.t = 99) (a b : Vl) (hl : v.l = [a, b]) (k0 : rCol a.t = false) (t0 : a.t = 98) (t1 : b.t = 98) :
  Calls Tryz.prog 86 #[.agg #[.int .i64 v.t, .slice nA v.n.length nc, .slice sA v.s.length sc, .slice lA v.l.length lc]] w fun e w' => e = .returned (.bool (true)) ∧ w.grownBy w' none := by
 obtain ⟨l1, l2, l3, l4⟩ := Vl.lens v ht
 obtain ⟨wa, hwa⟩ : ∃ wa, wa = w.alloc (.cells #[.int .i64 v.t, .slice nA v.n.length nc, .slice sA v.s.length sc, .slice lA v.l.length lc] 26) := ⟨_, rfl⟩
 have hg : w.grownBy wa none := by rw [hwa]; exact gb_alloc (gb_refl w none) _
 have hc := C4.box w (.int .i64 v.t) (.slice nA v.n.length nc) (.slice sA v.s.length sc) (.slice lA v.l.length lc) 26
 rw [← hwa] at hc
 have b0 : wa.cell? ⟨w.heap.size, 0, none⟩ = some (.int .i64 v.t) := hc.c0
 have b1 : wa.cell? ⟨w.heap.size, 1, none⟩ = some (.slice nA v.n.length nc) := hc.c1
 have b2 : wa.cell? ⟨w.heap.size, 2, none⟩ = some (.slice sA v.s.length sc) := hc.c2
 have b3 : wa.cell? ⟨w.heap.size, 3, none⟩ = some (.slice lA v.l.length lc) := hc.c3
 have HV := hide (h.gb hg hB)
 have HG := hide hg
 have HWE := hide hwa
 have HSZ := hide hsz
 have HAT := hide (fun w2 : World => rAtom_any v.t (.slice nA v.n.length nc) (.slice sA v.s.length sc) (.slice lA v.l.length lc) w2)
 have HAB := hide (fun w2 : World => rAbs_any v.t w2)
 have ea : rAtom v.t = false := by rw [ht0]; rfl
 have eb : rAbs v.t = 99 := by rw [ht0]; rfl
 have e100 : (v.t == 100) = false := int_beq_f (by omega)
 have e0 : (v.t == 0) = false := int_beq_f (by omega)
 have e98 : (v.t == 98) = false := int_beq_f (by omega)
 have e99 : (v.t == 99) = true := int_beq_t ht0
 rw [ea] at HAT
 rw [eb] at HAB
 clear ht0 ea eb
 have h2 : v.l.length = 2 := by rw [hl]; rfl
 have q2 : ((v.l.length : Int) == 2) = true := int_beq_t (by rw [h2]; rfl)
 have hl0 : (0 : Int) < (v.l.length : Int) := by omega
 have hl1 : (1 : Int) < (v.l.length : Int) := by omega
 have hRV := (h.gb hg hB).l
 rw [hl] at hRV
 obtain ⟨q, o, xA, xc, yA, yc, zA, zc, hlA, hqB, hc4, _⟩ := hRV.at_ (i := 0) (by simp)
 obtain ⟨q', o', xA', xc', yA', yc', zA', zc', hlA', _, hc5, _⟩ := hRV.at_ (i := 1) (by simp)
 subst hlA
 cases hlA'
 obtain ⟨d0, d1, d2, d3⟩ := hc4
 obtain ⟨f0, f1, f2, f3⟩ := hc5
 have d0 : wa.cell? ⟨q, o, none⟩ = some (.int .i64 a.t) := by simpa using d0
 have d1 : wa.cell? ⟨q, o + 1, none⟩ = some (.slice xA a.n.length xc) := by simpa using d1
 have d2 : wa.cell? ⟨q, o + 2, none⟩ = some (.slice yA a.s.length yc) := by simpa using d2
 have d3 : wa.cell? ⟨q, o + 3, none⟩ = some (.slice zA a.l.length zc) := by simpa using d3
 have f0 : wa.cell? ⟨q, o + 4, none⟩ = some (.int .i64 b.t) := by simpa using f0
 have f1 : wa.cell? ⟨q, o + 4 + 1, none⟩ = some (.slice xA' b.n.length xc') := by simpa using f1
 have f2 : wa.cell? ⟨q, o + 4 + 2, none⟩ = some (.slice yA' b.s.length yc') := by simpa using f2
 have f3 : wa.cell? ⟨q, o + 4 + 3, none⟩ = some (.slice zA' b.l.length zc') := by simpa using f3
 have HC0 := hide (fun w2 : World => rCol_any a.t (.slice xA a.n.length xc) (.slice yA a.s.length yc) (.slice zA a.l.length zc) w2)
 have HC1 := hide (fun w2 : World => rCol_any b.t (.slice xA' b.n.length xc') (.slice yA' b.s.length yc') (.slice zA' b.l.length zc') w2)
 have HGWA := hide (fun (w2 : World) (k : wa.grownBy w2 none) => And.intro (And.intro (cell_gb d0 k) (And.intro (cell_gb d1 k) (And.intro (cell_gb d2 k) (cell_gb d3 k)))) (And.intro (cell_gb f0 k) (And.intro (cell_gb f1 k) (And.intro (cell_gb f2 k) (cell_gb f3 k)))))
 clear h2 hl hRV
 rw [k0] at HC0
 have q0 : (a.t == 98) = true := int_beq_t t0
 have q1 : (b.t == 98) = true := int_beq_t t1
 clear k0 t0 t1
 clear ht hB h hg hwa hc hsz
 go_enter Tryz.func86, Tryz.ntmps86
 go_wp2_with fail
 rw [← HWE.out]
 go_wp2_with (first
  | (go_at_call 33; refine (HAT.out _).mono ?_; rintro e w1 ⟨rfl, hg1⟩; have b0 := cell_gb b0 hg1; have b1 := cell_gb b1 hg1; have b2 := cell_gb b2 hg1; have b3 := cell_gb b3 hg1; have HG1 := hide hg1; clear hg1; obtain ⟨⟨d0, d1, d2, d3⟩, f0, f1, f2, f3⟩ := HGWA.out _ HG1.out)
  | (go_at_call 54; refine (HAB.out _).mono ?_; rintro e wq ⟨rfl, rfl⟩)
  | (go_at_call 115; (with_reducible refine (HC0.out _).mono ?_); rintro e w2 ⟨rfl, hg2⟩; have b3 := cell_gb b3 hg2; have HG2 := hide (gb_trans HG1.out hg2 (.inl rfl)); clear hg2; obtain ⟨⟨d0, d1, d2, d3⟩, f0, f1, f2, f3⟩ := HGWA.out _ HG2.out))
 go_ret
 exact ⟨rfl, gb_trans HG.out HG2.out (.inl rfl)⟩
set_option maxHeartbeats 8000000 in
set_option maxRecDepth 100000 in
theorem plain_dictNTN (v : Vl) (w : World) (B : Nat) (nA : Option Addr) (nc : Nat) (sA : Option Addr) (sc : Nat) (lA : Option Addr) (lc : Nat) (ht : v.tot ≤ 1200000000) (hsz : ∀ s ∈ v.s, s.size ≤ 1200000000) (hB : B ≤ w.heap.size) (h : VB w B v nA nc sA sc lA lc) (ht0 : v.t = 99) (a b : Vl) (hl : v.l = [a, b]) (k0 : rCol a.t = false) (t0 : a.t = 98) (t1 : b.t ≠ 98) :
  Calls Tryz.prog 86 #[.agg #[.int .i64 v.t, .slice nA v.n.length nc, .slice sA v.s.length sc, .slice lA v.l.length lc]] w fun e w' => e = .returned (.bool (false)) ∧ w.grownBy w' none := by
 obtain ⟨l1, l2, l3, l4⟩ := Vl.lens v ht
 obtain ⟨wa, hwa⟩ : ∃ wa, wa = w.alloc (.cells #[.int .i64 v.t, .slice nA v.n.length nc, .slice sA v.s.length sc, .slice lA v.l.length lc] 26) := ⟨_, rfl⟩
 have hg : w.grownBy wa none := by rw [hwa]; exact gb_alloc (gb_refl w none) _
 have hc := C4.box w (.int .i64 v.t) (.slice nA v.n.length nc) (.slice sA v.s.length sc) (.slice lA v.l.length lc) 26
 rw [← hwa] at hc
 have b0 : wa.cell? ⟨w.heap.size, 0, none⟩ = some (.int .i64 v.t) := hc.c0
 have b1 : wa.cell? ⟨w.heap.size, 1, none⟩ = some (.slice nA v.n.length nc) := hc.c1
 have b2 : wa.cell? ⟨w.heap.size, 2, none⟩ = some (.slice sA v.s.length sc) := hc.c2
 have b3 : wa.cell? ⟨w.heap.size, 3, none⟩ = some (.slice lA v.l.length lc) := hc.c3
 have HV := hide (h.gb hg hB)
 have HG := hide hg
 have HWE := hide hwa
 have HSZ := hide hsz
 have HAT := hide (fun w2 : World => rAtom_any v.t (.slice nA v.n.length nc) (.slice sA v.s.length sc) (.slice lA v.l.length lc) w2)
 have HAB := hide (fun w2 : World => rAbs_any v.t w2)
 have ea : rAtom v.t = false := by rw [ht0]; rfl
 have eb : rAbs v.t = 99 := by rw [ht0]; rfl
 have e100 : (v.t == 100) = false := int_beq_f (by omega)
 have e0 : (v.t == 0) = false := int_beq_f (by omega)
 have e98 : (v.t == 98) = false := int_beq_f (by omega)
 have e99 : (v.t == 99) = true := int_beq_t ht0
 rw [ea] at HAT
 rw [eb] at HAB
 clear ht0 ea eb
 have h2 : v.l.length = 2 := by rw [hl]; rfl
 have q2 : ((v.l.length : Int) == 2) = true := int_beq_t (by rw [h2]; rfl)
 have hl0 : (0 : Int) < (v.l.length : Int) := by omega
 have hl1 : (1 : Int) < (v.l.length : Int) := by omega
 have hRV := (h.gb hg hB).l
 rw [hl] at hRV
 obtain ⟨q, o, xA, xc, yA, yc, zA, zc, hlA, hqB, hc4, _⟩ := hRV.at_ (i := 0) (by simp)
 obtain ⟨q', o', xA', xc', yA', yc', zA', zc', hlA', _, hc5, _⟩ := hRV.at_ (i := 1) (by simp)
 subst hlA
 cases hlA'
 obtain ⟨d0, d1, d2, d3⟩ := hc4
 obtain ⟨f0, f1, f2, f3⟩ := hc5
 have d0 : wa.cell? ⟨q, o, none⟩ = some (.int .i64 a.t) := by simpa using d0
 have d1 : wa.cell? ⟨q, o + 1, none⟩ = some (.slice xA a.n.length xc) := by simpa using d1
 have d2 : wa.cell? ⟨q, o + 2, none⟩ = some (.slice yA a.s.length yc) := by simpa using d2
 have d3 : wa.cell? ⟨q, o + 3, none⟩ = some (.slice zA a.l.length zc) := by simpa using d3
 have f0 : wa.cell? ⟨q, o + 4, none⟩ = some (.int .i64 b.t) := by simpa using f0
 have f1 : wa.cell? ⟨q, o + 4 + 1, none⟩ = some (.slice xA' b.n.length xc') := by simpa using f1
 have f2 : wa.cell? ⟨q, o + 4 + 2, none⟩ = some (.slice yA' b.s.length yc') := by simpa using f2
 have f3 : wa.cell? ⟨q, o + 4 + 3, none⟩ = some (.slice zA' b.l.length zc') := by simpa using f3
 have HC0 := hide (fun w2 : World => rCol_any a.t (.slice xA a.n.length xc) (.slice yA a.s.length yc) (.slice zA a.l.length zc) w2)
 have HC1 := hide (fun w2 : World => rCol_any b.t (.slice xA' b.n.length xc') (.slice yA' b.s.length yc') (.slice zA' b.l.length zc') w2)
 have HGWA := hide (fun (w2 : World) (k : wa.grownBy w2 none) => And.intro (And.intro (cell_gb d0 k) (And.intro (cell_gb d1 k) (And.intro (cell_gb d2 k) (cell_gb d3 k)))) (And.intro (cell_gb f0 k) (And.intro (cell_gb f1 k) (And.intro (cell_gb f2 k) (cell_gb f3 k)))))
 clear h2 hl hRV
 rw [k0] at HC0
 have q0 : (a.t == 98) = true := int_beq_t t0
 have q1 : (b.t == 98) = false := int_beq_f t1
 clear k0 t0 t1
 clear ht hB h hg hwa hc hsz
 go_enter Tryz.func86, Tryz.ntmps86
 go_wp2_with fail
 rw [← HWE.out]
 go_wp2_with (first
  | (go_at_call 33; refine (HAT.out _).mono ?_; rintro e w1 ⟨rfl, hg1⟩; have b0 := cell_gb b0 hg1; have b1 := cell_gb b1 hg1; have b2 := cell_gb b2 hg1; have b3 := cell_gb b3 hg1; have HG1 := hide hg1; clear hg1; obtain ⟨⟨d0, d1, d2, d3⟩, f0, f1, f2, f3⟩ := HGWA.out _ HG1.out)
  | (go_at_call 54; refine (HAB.out _).mono ?_; rintro e wq ⟨rfl, rfl⟩)
  | (go_at_call 115; (with_reducible refine (HC0.out _).mono ?_); rintro e w2 ⟨rfl, hg2⟩; have b3 := cell_gb b3 hg2; have HG2 := hide (gb_trans HG1.out hg2 (.inl rfl)); clear hg2; obtain ⟨⟨d0, d1, d2, d3⟩, f0, f1, f2, f3⟩ := HGWA.out _ HG2.out))
 go_ret
 exact ⟨rfl, gb_trans HG.out HG2.out (.inl rfl)⟩
set_option maxHeartbeats 8000000 in
set_option maxRecDepth 100000 in
theorem plain_dictNNT (v : Vl) (w : World) (B : Nat) (nA : Option Addr) (nc : Nat) (sA : Option Addr) (sc : Nat) (lA : Option Addr) (lc : Nat) (ht : v.tot ≤ 1200000000) (hsz : ∀ s ∈ v.s, s.size ≤ 1200000000) (hB : B ≤ w.heap.size) (h : VB w B v nA nc sA sc lA lc) (ht0 : v.t = 99) (a b : Vl) (hl : v.l = [a, b]) (k0 : rCol a.t = false) (t0 : a.t ≠ 98) :
  Calls Tryz.prog 86 #[.agg #[.int .i64 v.t, .slice nA v.n.length nc, .slice sA v.s.length sc, .slice lA v.l.length lc]] w fun e w' => e = .returned (.bool (false)) ∧ w.grownBy w' none := by
 obtain ⟨l1, l2, l3, l4⟩ := Vl.lens v ht
 obtain ⟨wa, hwa⟩ : ∃ wa, wa = w.alloc (.cells #[.int .i64 v.t, .slice nA v.n.length nc, .slice sA v.s.length sc, .slice lA v.l.length lc] 26) := ⟨_, rfl⟩
 have hg : w.grownBy wa none := by rw [hwa]; exact gb_alloc (gb_refl w none) _
 have hc := C4.box w (.int .i64 v.t) (.slice nA v.n.length nc) (.slice sA v.s.length sc) (.slice lA v.l.length lc) 26
 rw [← hwa] at hc
 have b0 : wa.cell? ⟨w.heap.size, 0, none⟩ = some (.int .i64 v.t) := hc.c0
 have b1 : wa.cell? ⟨w.heap.size, 1, none⟩ = some (.slice nA v.n.length nc) := hc.c1
 have b2 : wa.cell? ⟨w.heap.size, 2, none⟩ = some (.slice sA v.s.length sc) := hc.c2
 have b3 : wa.cell? ⟨w.heap.size, 3, none⟩ = some (.slice lA v.l.length lc) := hc.c3
 have HV := hide (h.gb hg hB)
 have HG := hide hg
 have HWE := hide hwa
 have HSZ := hide hsz
 have HAT := hide (fun w2 : World => rAtom_any v.t (.slice nA v.n.length nc) (.slice sA v.s.length sc) (.slice lA v.l.length lc) w2)
 have HAB := hide (fun w2 : World => rAbs_any v.t w2)
 have ea : rAtom v.t = false := by rw [ht0]; rfl
 have eb : rAbs v.t = 99 := by rw [ht0]; rfl
 have e100 : (v.t == 100) = false := int_beq_f (by omega)
 have e0 : (v.t == 0) = false := int_beq_f (by omega)
 have e98 : (v.t == 98) = false := int_beq_f (by omega)
 have e99 : (v.t == 99) = true := int_beq_t ht0
 rw [ea] at HAT
 rw [eb] at HAB
 clear ht0 ea eb
 have h2 : v.l.length = 2 := by rw [hl]; rfl
 have q2 : ((v.l.length : Int) == 2) = true := int_beq_t (by rw [h2]; rfl)
 have hl0 : (0 : Int) < (v.l.length : Int) := by omega
 have hl1 : (1 : Int) < (v.l.length : Int) := by omega
 have hRV := (h.gb hg hB).l
 rw [hl] at hRV
 obtain ⟨q, o, xA, xc, yA, yc, zA, zc, hlA, hqB, hc4, _⟩ := hRV.at_ (i := 0) (by simp)
 obtain ⟨q', o', xA', xc', yA', yc', zA', zc', hlA', _, hc5, _⟩ := hRV.at_ (i := 1) (by simp)
 subst hlA
 cases hlA'
 obtain ⟨d0, d1, d2, d3⟩ := hc4
 obtain ⟨f0, f1, f2, f3⟩ := hc5
 have d0 : wa.cell? ⟨q, o, none⟩ = some (.int .i64 a.t) := by simpa using d0
 have d1 : wa.cell? ⟨q, o + 1, none⟩ = some (.slice xA a.n.length xc) := by simpa using d1
 have d2 : wa.cell? ⟨q, o + 2, none⟩ = some (.slice yA a.s.length yc) := by simpa using d2
 have d3 : wa.cell? ⟨q, o + 3, none⟩ = some (.slice zA a.l.length zc) := by simpa using d3
 have f0 : wa.cell? ⟨q, o + 4, none⟩ = some (.int .i64 b.t) := by simpa using f0
 have f1 : wa.cell? ⟨q, o + 4 + 1, none⟩ = some (.slice xA' b.n.length xc') := by simpa using f1
 have f2 : wa.cell? ⟨q, o + 4 + 2, none⟩ = some (.slice yA' b.s.length yc') := by simpa using f2
 have f3 : wa.cell? ⟨q, o + 4 + 3, none⟩ = some (.slice zA' b.l.length zc') := by simpa using f3
 have HC0 := hide (fun w2 : World => rCol_any a.t (.slice xA a.n.length xc) (.slice yA a.s.length yc) (.slice zA a.l.length zc) w2)
 have HC1 := hide (fun w2 : World => rCol_any b.t (.slice xA' b.n.length xc') (.slice yA' b.s.length yc') (.slice zA' b.l.length zc') w2)
 have HGWA := hide (fun (w2 : World) (k : wa.grownBy w2 none) => And.intro (And.intro (cell_gb d0 k) (And.intro (cell_gb d1 k) (And.intro (cell_gb d2 k) (cell_gb d3 k)))) (And.intro (cell_gb f0 k) (And.intro (cell_gb f1 k) (And.intro (cell_gb f2 k) (cell_gb f3 k)))))
 clear h2 hl hRV
 rw [k0] at HC0
 have q0 : (a.t == 98) = false := int_beq_f t0
 clear k0 t0
 clear ht hB h hg hwa hc hsz
 go_enter Tryz.func86, Tryz.ntmps86
 go_wp2_with fail
 rw [← HWE.out]
 go_wp2_with (first
  | (go_at_call 33; refine (HAT.out _).mono ?_; rintro e w1 ⟨rfl, hg1⟩; have b0 := cell_gb b0 hg1; have b1 := cell_gb b1 hg1; have b2 := cell_gb b2 hg1; have b3 := cell_gb b3 hg1; have HG1 := hide hg1; clear hg1; obtain ⟨⟨d0, d1, d2, d3⟩, f0, f1, f2, f3⟩ := HGWA.out _ HG1.out)
  | (go_at_call 54; refine (HAB.out _).mono ?_; rintro e wq ⟨rfl, rfl⟩)
  | (go_at_call 115; (with_reducible refine (HC0.out _).mono ?_); rintro e w2 ⟨rfl, hg2⟩; have b3 := cell_gb b3 hg2; have HG2 := hide (gb_trans HG1.out hg2 (.inl rfl)); clear hg2; obtain ⟨⟨d0, d1, d2, d3⟩, f0, f1, f2, f3⟩ := HGWA.out _ HG2.out))
 go_ret
 exact ⟨rfl, gb_trans HG.out HG2.out (.inl rfl)⟩
end Go.Proofs.YtbmgodmfpoappaaGreat
/- The document's own plain: lambdas; all types together. -/
namespace Go.Proofs.YtbmgodmfpoappaaGreat
open Go.RowKit
attribute [local go_sem ↓] Go.wp_at_zero Go.wp_at_succ
set_option maxHeartbeats 8000000 in
set_option maxRecDepth 100000 in
theorem plain_lam0 (v : Vl) (w : World) (B : Nat) (nA : Option Addr) (nc : Nat) (sA : Option Addr) (sc : Nat) (lA : Option Addr) (lc : Nat) (ht : v.tot ≤ 1200000000) (hsz : ∀ s ∈ v.s, s.size ≤ 1200000000) (hB : B ≤ w.heap.size) (h : VB w B v nA nc sA sc lA lc) (ht0 : v.t = 100) (h1 : v.s.length ≠ 1) :
  Calls Tryz.prog 86 #[.agg #[.int .i64 v.t, .slice nA v.n.length nc, .slice sA v.s.length sc, .slice lA v.l.length lc]] w fun e w' => e = .returned (.bool (false)) ∧ w.grownBy w' none := by
 obtain ⟨l1, l2, l3, l4⟩ := Vl.lens v ht
 obtain ⟨wa, hwa⟩ : ∃ wa, wa = w.alloc (.cells #[.int .i64 v.t, .slice nA v.n.length nc, .slice sA v.s.length sc, .slice lA v.l.length lc] 26) := ⟨_, rfl⟩
 have hg : w.grownBy wa none := by rw [hwa]; exact gb_alloc (gb_refl w none) _
 have hc := C4.box w (.int .i64 v.t) (.slice nA v.n.length nc) (.slice sA v.s.length sc) (.slice lA v.l.length lc) 26
 rw [← hwa] at hc
 have b0 : wa.cell? ⟨w.heap.size, 0, none⟩ = some (.int .i64 v.t) := hc.c0
 have b1 : wa.cell? ⟨w.heap.size, 1, none⟩ = some (.slice nA v.n.length nc) := hc.c1
 have b2 : wa.cell? ⟨w.heap.size, 2, none⟩ = some (.slice sA v.s.length sc) := hc.c2
 have b3 : wa.cell? ⟨w.heap.size, 3, none⟩ = some (.slice lA v.l.length lc) := hc.c3
 have HV := hide (h.gb hg hB)
 have HG := hide hg
 have HWE := hide hwa
 have HSZ := hide hsz
 have HAT := hide (fun w2 : World => rAtom_any v.t (.slice nA v.n.length nc) (.slice sA v.s.length sc) (.slice lA v.l.length lc) w2)
 have HAB := hide (fun w2 : World => rAbs_any v.t w2)
 have ea : rAtom v.t = false := by rw [ht0]; rfl
 have eb : rAbs v.t = 100 := by rw [ht0]; rfl
 have e100 : (v.t == 100) = true := int_beq_t ht0
 rw [ea] at HAT
 rw [eb] at HAB
 clear ht0 ea eb
 have q1 : ((v.s.length : Int) != 1) = true := int_bne_f (by omega)
 clear h1
 clear ht hB h hg hwa hc hsz
 go_enter Tryz.func86, Tryz.ntmps86
 go_wp2_with fail
 rw [← HWE.out]
 go_wp2_with (first
  | (go_at_call 33; refine (HAT.out _).mono ?_; rintro e w1 ⟨rfl, hg1⟩; have b0 := cell_gb b0 hg1; have b1 := cell_gb b1 hg1; have b2 := cell_gb b2 hg1; have b3 := cell_gb b3 hg1; have HG1 := hide hg1; clear hg1)
  | (go_at_call 54; refine (HAB.out _).mono ?_; rintro e wq ⟨rfl, rfl⟩))
 go_quiet (fail)
 go_wp2_with fail
 go_ret
 exact ⟨rfl, gb_drewN (gb_trans HG.out HG1.out (.inl rfl)) _⟩
set_option maxHeartbeats 8000000 in
set_option maxRecDepth 100000 in
theorem plain_lamS (v : Vl) (w : World) (B : Nat) (nA : Option Addr) (nc : Nat) (sA : Option Addr) (sc : Nat) (lA : Option Addr) (lc : Nat) (ht : v.tot ≤ 1200000000) (hsz : ∀ s ∈ v.s, s.size ≤ 1200000000) (hB : B ≤ w.heap.size) (h : VB w B v nA nc sA sc lA lc) (ht0 : v.t = 100) (x : ByteArray) (hl : v.s = [x]) (h2 : x.size < 2) :
  Calls Tryz.prog 86 #[.agg #[.int .i64 v.t, .slice nA v.n.length nc, .slice sA v.s.length sc, .slice lA v.l.length lc]] w fun e w' => e = .returned (.bool (false)) ∧ w.grownBy w' none := by
 obtain ⟨l1, l2, l3, l4⟩ := Vl.lens v ht
 obtain ⟨wa, hwa⟩ : ∃ wa, wa = w.alloc (.cells #[.int .i64 v.t, .slice nA v.n.length nc, .slice sA v.s.length sc, .slice lA v.l.length lc] 26) := ⟨_, rfl⟩
 have hg : w.grownBy wa none := by rw [hwa]; exact gb_alloc (gb_refl w none) _
 have hc := C4.box w (.int .i64 v.t) (.slice nA v.n.length nc) (.slice sA v.s.length sc) (.slice lA v.l.length lc) 26
 rw [← hwa] at hc
 have b0 : wa.cell? ⟨w.heap.size, 0, none⟩ = some (.int .i64 v.t) := hc.c0
 have b1 : wa.cell? ⟨w.heap.size, 1, none⟩ = some (.slice nA v.n.length nc) := hc.c1
 have b2 : wa.cell? ⟨w.heap.size, 2, none⟩ = some (.slice sA v.s.length sc) := hc.c2
 have b3 : wa.cell? ⟨w.heap.size, 3, none⟩ = some (.slice lA v.l.length lc) := hc.c3
 have HV := hide (h.gb hg hB)
 have HG := hide hg
 have HWE := hide hwa
 have HSZ := hide hsz
 have HAT := hide (fun w2 : World => rAtom_any v.t (.slice nA v.n.length nc) (.slice sA v.s.length sc) (.slice lA v.l.length lc) w2)
 have HAB := hide (fun w2 : World => rAbs_any v.t w2)
 have ea : rAtom v.t = false := by rw [ht0]; rfl
 have eb : rAbs v.t = 100 := by rw [ht0]; rfl
 have e100 : (v.t == 100) = true := int_beq_t ht0
 rw [ea] at HAT
 rw [eb] at HAB
 clear ht0 ea eb
 have h1 : v.s.length = 1 := by rw [hl]; rfl
 have hs00 : 0 < v.s.length := by omega
 have q1 : ((v.s.length : Int) != 1) = false := int_bne_t (by omega)
 have hs0 : (0 : Int) < (v.s.length : Int) := by omega
 have hRS := (h.gb hg hB).s
 rw [hl] at hRS
 obtain ⟨q, o, hsA, _, hlay⟩ := hRS.lay (by simp [strs])
 subst hsA
 have c0 : wa.cell? ⟨q, o, none⟩ = some (.string x) := by simpa using hlay 0 (.string x) rfl
 have HC0 := hide c0
 clear h1 hl hRS hlay c0
 have q2 : (x.size : Int) < 2 := by omega
 clear h2
 clear ht hB h hg hwa hc hsz
 go_enter Tryz.func86, Tryz.ntmps86
 go_wp2_with fail
 rw [← HWE.out]
 go_wp2_with (first
  | (go_at_call 33; refine (HAT.out _).mono ?_; rintro e w1 ⟨rfl, hg1⟩; have b0 := cell_gb b0 hg1; have b1 := cell_gb b1 hg1; have b2 := cell_gb b2 hg1; have b3 := cell_gb b3 hg1; have HG1 := hide hg1; have c0 := cell_gb HC0.out hg1; clear hg1)
  | (go_at_call 54; refine (HAB.out _).mono ?_; rintro e wq ⟨rfl, rfl⟩))
 go_quiet (fail)
 go_wp2_with fail
 go_ret
 exact ⟨rfl, gb_drewN (gb_trans HG.out HG1.out (.inl rfl)) _⟩
set_option maxHeartbeats 8000000 in
set_option maxRecDepth 100000 in
theorem plain_lamH (v : Vl) (w : World) (B : Nat) (nA : Option Addr) (nc : Nat) (sA : Option Addr) (sc : Nat) (lA : Option Addr) (lc : Nat) (ht : v.tot ≤ 1200000000) (hsz : ∀ s ∈ v.s, s.size ≤ 1200000000) (hB : B ≤ w.heap.size) (h : VB w B v nA nc sA sc lA lc) (ht0 : v.t = 100) (x : ByteArray) (hl : v.s = [x]) (h2 : 2 ≤ x.size) (h3 : x[0] ≠ 123) :
  Calls Tryz.prog 86 #[.agg #[.int .i64 v.t, .slice nA v.n.length nc, .slice sA v.s.length sc, .slice lA v.l.length lc]] w fun e w' => e = .returned (.bool (false)) ∧ w.grownBy w' none := by
 obtain ⟨l1, l2, l3, l4⟩ := Vl.lens v ht
 obtain ⟨wa, hwa⟩ : ∃ wa, wa = w.alloc (.cells #[.int .i64 v.t, .slice nA v.n.length nc, .slice sA v.s.length sc, .slice lA v.l.length lc] 26) := ⟨_, rfl⟩
 have hg : w.grownBy wa none := by rw [hwa]; exact gb_alloc (gb_refl w none) _
 have hc := C4.box w (.int .i64 v.t) (.slice nA v.n.length nc) (.slice sA v.s.length sc) (.slice lA v.l.length lc) 26
 rw [← hwa] at hc
 have b0 : wa.cell? ⟨w.heap.size, 0, none⟩ = some (.int .i64 v.t) := hc.c0
 have b1 : wa.cell? ⟨w.heap.size, 1, none⟩ = some (.slice nA v.n.length nc) := hc.c1
 have b2 : wa.cell? ⟨w.heap.size, 2, none⟩ = some (.slice sA v.s.length sc) := hc.c2
 have b3 : wa.cell? ⟨w.heap.size, 3, none⟩ = some (.slice lA v.l.length lc) := hc.c3
 have HV := hide (h.gb hg hB)
 have HG := hide hg
 have HWE := hide hwa
 have HSZ := hide hsz
 have HAT := hide (fun w2 : World => rAtom_any v.t (.slice nA v.n.length nc) (.slice sA v.s.length sc) (.slice lA v.l.length lc) w2)
 have HAB := hide (fun w2 : World => rAbs_any v.t w2)
 have ea : rAtom v.t = false := by rw [ht0]; rfl
 have eb : rAbs v.t = 100 := by rw [ht0]; rfl
 have e100 : (v.t == 100) = true := int_beq_t ht0
 rw [ea] at HAT
 rw [eb] at HAB
 clear ht0 ea eb
 have h1 : v.s.length = 1 := by rw [hl]; rfl
 have hs00 : 0 < v.s.length := by omega
 have q1 : ((v.s.length : Int) != 1) = false := int_bne_t (by omega)
 have hs0 : (0 : Int) < (v.s.length : Int) := by omega
 have hRS := (h.gb hg hB).s
 rw [hl] at hRS
 obtain ⟨q, o, hsA, _, hlay⟩ := hRS.lay (by simp [strs])
 subst hsA
 have c0 : wa.cell? ⟨q, o, none⟩ = some (.string x) := by simpa using hlay 0 (.string x) rfl
 have HC0 := hide c0
 clear h1 hl hRS hlay c0
 have q2 : decide ((x.size : Int) < 2) = false := decide_eq_false (by omega)
 have q3 : (0 : Int) < (x.size : Int) := by omega
 have q4 : 0 < x.size := by omega
 have q5 : (((x[0]).toNat : Int) != 123) = true := int_bne_f (fun e => h3 (UInt8.toNat_inj.1 (by have : x[0].toNat = 123 := (by omega); rw [this]; rfl)))
 clear h2 h3
 clear ht hB h hg hwa hc hsz
 go_enter Tryz.func86, Tryz.ntmps86
 go_wp2_with fail
 rw [← HWE.out]
 go_wp2_with (first
  | (go_at_call 33; refine (HAT.out _).mono ?_; rintro e w1 ⟨rfl, hg1⟩; have b0 := cell_gb b0 hg1; have b1 := cell_gb b1 hg1; have b2 := cell_gb b2 hg1; have b3 := cell_gb b3 hg1; have HG1 := hide hg1; have c0 := cell_gb HC0.out hg1; clear hg1)
  | (go_at_call 54; refine (HAB.out _).mono ?_; rintro e wq ⟨rfl, rfl⟩))
 go_quiet (fail)
 go_wp2_with fail
 go_ret
 exact ⟨rfl, gb_drewN (gb_trans HG.out HG1.out (.inl rfl)) _⟩
set_option maxHeartbeats 8000000 in
set_option maxRecDepth 100000 in
theorem plain_lamL (v : Vl) (w : World) (B : Nat) (nA : Option Addr) (nc : Nat) (sA : Option Addr) (sc : Nat) (lA : Option Addr) (lc : Nat) (ht : v.tot ≤ 1200000000) (hsz : ∀ s ∈ v.s, s.size ≤ 1200000000) (hB : B ≤ w.heap.size) (h : VB w B v nA nc sA sc lA lc) (ht0 : v.t = 100) (x : ByteArray) (hl : v.s = [x]) (m : Nat) (h2 : x.size = m + 1) (h1m : 1 ≤ m) (h3 : x[0] = 123) (h4 : x[m] ≠ 125) :
  Calls Tryz.prog 86 #[.agg #[.int .i64 v.t, .slice nA v.n.length nc, .slice sA v.s.length sc, .slice lA v.l.length lc]] w fun e w' => e = .returned (.bool (false)) ∧ w.grownBy w' none := by
 obtain ⟨l1, l2, l3, l4⟩ := Vl.lens v ht
 obtain ⟨wa, hwa⟩ : ∃ wa, wa = w.alloc (.cells #[.int .i64 v.t, .slice nA v.n.length nc, .slice sA v.s.length sc, .slice lA v.l.length lc] 26) := ⟨_, rfl⟩
 have hg : w.grownBy wa none := by rw [hwa]; exact gb_alloc (gb_refl w none) _
 have hc := C4.box w (.int .i64 v.t) (.slice nA v.n.length nc) (.slice sA v.s.length sc) (.slice lA v.l.length lc) 26
 rw [← hwa] at hc
 have b0 : wa.cell? ⟨w.heap.size, 0, none⟩ = some (.int .i64 v.t) := hc.c0
 have b1 : wa.cell? ⟨w.heap.size, 1, none⟩ = some (.slice nA v.n.length nc) := hc.c1
 have b2 : wa.cell? ⟨w.heap.size, 2, none⟩ = some (.slice sA v.s.length sc) := hc.c2
 have b3 : wa.cell? ⟨w.heap.size, 3, none⟩ = some (.slice lA v.l.length lc) := hc.c3
 have HV := hide (h.gb hg hB)
 have HG := hide hg
 have HWE := hide hwa
 have HSZ := hide hsz
 have HAT := hide (fun w2 : World => rAtom_any v.t (.slice nA v.n.length nc) (.slice sA v.s.length sc) (.slice lA v.l.length lc) w2)
 have HAB := hide (fun w2 : World => rAbs_any v.t w2)
 have ea : rAtom v.t = false := by rw [ht0]; rfl
 have eb : rAbs v.t = 100 := by rw [ht0]; rfl
 have e100 : (v.t == 100) = true := int_beq_t ht0
 rw [ea] at HAT
 rw [eb] at HAB
 clear ht0 ea eb
 have h1 : v.s.length = 1 := by rw [hl]; rfl
 have hs00 : 0 < v.s.length := by omega
 have q1 : ((v.s.length : Int) != 1) = false := int_bne_t (by omega)
 have hs0 : (0 : Int) < (v.s.length : Int) := by omega
 have hRS := (h.gb hg hB).s
 rw [hl] at hRS
 obtain ⟨q, o, hsA, _, hlay⟩ := hRS.lay (by simp [strs])
 subst hsA
 have c0 : wa.cell? ⟨q, o, none⟩ = some (.string x) := by simpa using hlay 0 (.string x) rfl
 have HC0 := hide c0
 have hxs : x.size ≤ 1200000000 := hsz x (by rw [hl]; simp)
 clear h1 hl hRS hlay c0
 have q2 : decide ((x.size : Int) < 2) = false := decide_eq_false (by omega)
 have q3 : (0 : Int) < (x.size : Int) := by omega
 have q4 : 0 < x.size := by omega
 have q7 : m < x.size := by omega
 have q5 : (((x[0]'q4).toNat : Int) != 123) = false := by rw [h3]; rfl
 have q6 : (((x[m]'q7).toNat : Int) != 125) = true := int_bne_f (fun e => h4 (UInt8.toNat_inj.1 (by have : x[m].toNat = 125 := (by omega); rw [this]; rfl)))
 have q8 : (m : Int) < (x.size : Int) := by omega
 have q9 : (x.size : Int) - 1 = (m : Int) := by omega
 have q11 : (0 : Int) ≤ (m : Int) := Int.natCast_nonneg m
 have q10a : (m : Int) ≤ 9223372036854775807 := by omega
 have q10 : wrap64 (m : Int) = (m : Int) := Go.IntWalk.wrap64_in _ (And.intro (by omega) q10a)
 clear h2 h3 h4 hxs q10a
 clear ht hB h hg hwa hc hsz
 go_enter Tryz.func86, Tryz.ntmps86
 go_wp2_with fail
 rw [← HWE.out]
 go_wp2_with (first
  | (go_at_call 33; refine (HAT.out _).mono ?_; rintro e w1 ⟨rfl, hg1⟩; have b0 := cell_gb b0 hg1; have b1 := cell_gb b1 hg1; have b2 := cell_gb b2 hg1; have b3 := cell_gb b3 hg1; have HG1 := hide hg1; have c0 := cell_gb HC0.out hg1; clear hg1)
  | (go_at_call 54; refine (HAB.out _).mono ?_; rintro e wq ⟨rfl, rfl⟩))
 go_quiet (fail)
 go_wp2_with fail
 go_ret
 exact ⟨rfl, gb_drewN (gb_trans HG.out HG1.out (.inl rfl)) _⟩
set_option maxHeartbeats 8000000 in
set_option maxRecDepth 100000 in
theorem plain_lamOk (v : Vl) (w : World) (B : Nat) (nA : Option Addr) (nc : Nat) (sA : Option Addr) (sc : Nat) (lA : Option Addr) (lc : Nat) (ht : v.tot ≤ 1200000000) (hsz : ∀ s ∈ v.s, s.size ≤ 1200000000) (hB : B ≤ w.heap.size) (h : VB w B v nA nc sA sc lA lc) (ht0 : v.t = 100) (x : ByteArray) (hl : v.s = [x]) (m : Nat) (h2 : x.size = m + 1) (h1m : 1 ≤ m) (h3 : x[0] = 123) (h4 : x[m] = 125) :
  Calls Tryz.prog 86 #[.agg #[.int .i64 v.t, .slice nA v.n.length nc, .slice sA v.s.length sc, .slice lA v.l.length lc]] w fun e w' => e = .returned (.bool (true)) ∧ w.grownBy w' none := by
 obtain ⟨l1, l2, l3, l4⟩ := Vl.lens v ht
 obtain ⟨wa, hwa⟩ : ∃ wa, wa = w.alloc (.cells #[.int .i64 v.t, .slice nA v.n.length nc, .slice sA v.s.length sc, .slice lA v.l.length lc] 26) := ⟨_, rfl⟩
 have hg : w.grownBy wa none := by rw [hwa]; exact gb_alloc (gb_refl w none) _
 have hc := C4.box w (.int .i64 v.t) (.slice nA v.n.length nc) (.slice sA v.s.length sc) (.slice lA v.l.length lc) 26
 rw [← hwa] at hc
 have b0 : wa.cell? ⟨w.heap.size, 0, none⟩ = some (.int .i64 v.t) := hc.c0
 have b1 : wa.cell? ⟨w.heap.size, 1, none⟩ = some (.slice nA v.n.length nc) := hc.c1
 have b2 : wa.cell? ⟨w.heap.size, 2, none⟩ = some (.slice sA v.s.length sc) := hc.c2
 have b3 : wa.cell? ⟨w.heap.size, 3, none⟩ = some (.slice lA v.l.length lc) := hc.c3
 have HV := hide (h.gb hg hB)
 have HG := hide hg
 have HWE := hide hwa
 have HSZ := hide hsz
 have HAT := hide (fun w2 : World => rAtom_any v.t (.slice nA v.n.length nc) (.slice sA v.s.length sc) (.slice lA v.l.length lc) w2)
 have HAB := hide (fun w2 : World => rAbs_any v.t w2)
 have ea : rAtom v.t = false := by rw [ht0]; rfl
 have eb : rAbs v.t = 100 := by rw [ht0]; rfl
 have e100 : (v.t == 100) = true := int_beq_t ht0
 rw [ea] at HAT
 rw [eb] at HAB
 clear ht0 ea eb
 have h1 : v.s.length = 1 := by rw [hl]; rfl
 have hs00 : 0 < v.s.length := by omega
 have q1 : ((v.s.length : Int) != 1) = false := int_bne_t (by omega)
 have hs0 : (0 : Int) < (v.s.length : Int) := by omega
 have hRS := (h.gb hg hB).s
 rw [hl] at hRS
 obtain ⟨q, o, hsA, _, hlay⟩ := hRS.lay (by simp [strs])
 subst hsA
 have c0 : wa.cell? ⟨q, o, none⟩ = some (.string x) := by simpa using hlay 0 (.string x) rfl
 have HC0 := hide c0
 have hxs : x.size ≤ 1200000000 := hsz x (by rw [hl]; simp)
 clear h1 hl hRS hlay c0
 have q2 : decide ((x.size : Int) < 2) = false := decide_eq_false (by omega)
 have q3 : (0 : Int) < (x.size : Int) := by omega
 have q4 : 0 < x.size := by omega
 have q7 : m < x.size := by omega
 have q5 : (((x[0]'q4).toNat : Int) != 123) = false := by rw [h3]; rfl
 have q6 : (((x[m]'q7).toNat : Int) != 125) = false := by rw [h4]; rfl
 have q8 : (m : Int) < (x.size : Int) := by omega
 have q9 : (x.size : Int) - 1 = (m : Int) := by omega
 have q11 : (0 : Int) ≤ (m : Int) := Int.natCast_nonneg m
 have q10a : (m : Int) ≤ 9223372036854775807 := by omega
 have q10 : wrap64 (m : Int) = (m : Int) := Go.IntWalk.wrap64_in _ (And.intro (by omega) q10a)
 clear h2 h3 h4 hxs q10a
 clear ht hB h hg hwa hc hsz
 go_enter Tryz.func86, Tryz.ntmps86
 go_wp2_with fail
 rw [← HWE.out]
 go_wp2_with (first
  | (go_at_call 33; refine (HAT.out _).mono ?_; rintro e w1 ⟨rfl, hg1⟩; have b0 := cell_gb b0 hg1; have b1 := cell_gb b1 hg1; have b2 := cell_gb b2 hg1; have b3 := cell_gb b3 hg1; have HG1 := hide hg1; have c0 := cell_gb HC0.out hg1; clear hg1)
  | (go_at_call 54; refine (HAB.out _).mono ?_; rintro e wq ⟨rfl, rfl⟩))
 go_quiet (fail)
 go_wp2_with fail
 have HQ := hide (gb_drewN HG1.out nq)
 have b0 := cell_gb b0 (gb_drewN (gb_refl w1 none) nq)
 have b2 := cell_gb b2 (gb_drewN (gb_refl w1 none) nq)
 generalize w1.drewN nq = w2 at *
 go_loopw [4] (fun i wr => i = .int .i64 0 ∧ w2 = wr) (fun _ _ => 0)
 case atStart => exact ⟨rfl, rfl⟩
 case round =>
  obtain ⟨rfl, rfl⟩ := hrel
  go_wp2_with (go_at_call 54; refine (HAB.out _).mono ?_; rintro e wq ⟨rfl, rfl⟩)
  go_ret
  exact ⟨rfl, gb_trans HG.out HQ.out (.inl rfl)⟩
end Go.Proofs.YtbmgodmfpoappaaGreat
/- The document's own plain, of every type that may be. -/
namespace Go.Proofs.YtbmgodmfpoappaaGreat
open Go.RowKit
def dicV (v : Vl) : Bool := match v.l with
 | [a, b] => (rCol a.t && rCol b.t) || (decide (a.t = 98) && decide (b.t = 98))
 | _ => false
def lamS (x : ByteArray) : Bool := if h : 2 ≤ x.size then decide (x[0] = 123) && decide (x[x.size - 1] = 125) else false
def lamV (v : Vl) : Bool := match v.s with
 | [x] => lamS x
 | _ => false
def plainV (v : Vl) : Bool :=
 if rAtom v.t = true ∧ v.n.length + v.s.length ≠ 1 then false
 else if v.t = 0 then listV v else if v.t = 98 then tabV v else if v.t = 99 then dicV v else if v.t = 100 then lamV v
 else if rAbs v.t = 1 then bitsV v.n else if rAbs v.t = 3 then v.s.all symS else true
theorem rAbs_pos {t : Int} (h : 0 ≤ t) : rAbs t = t := by unfold rAbs; rw [if_neg (by omega)]
theorem lam_last {x : ByteArray} (h : 2 ≤ x.size) : ∃ m, x.size = m + 1 ∧ 1 ≤ m := ⟨x.size - 1, by omega, by omega⟩
def fieldsOk (v : Vl) : Bool := (fieldsT v.t).2.2.2 && ((fieldsT v.t).1 || decide (v.n.length = 0)) && ((fieldsT v.t).2.1 || decide (v.s.length = 0)) && ((fieldsT v.t).2.2.1 || decide (v.l.length = 0))
theorem fieldsOk_num {v : Vl} (h : fieldsOk v = true) (hk : rAbs v.t = 1 ∨ rAbs v.t = 2 ∨ rAbs v.t = 4 ∨ rAbs v.t = 5) : v.s.length = 0 := by
 have h0 : v.t ≠ 0 := by
  intro e
  rw [e] at hk
  rcases hk with hk | hk | hk | hk <;> exact absurd hk (by decide)
 have hf : fieldsT v.t = (true, false, false, true) := by
  unfold fieldsT
  rw [if_neg (by omega), if_pos ⟨h0, by omega, by omega⟩]
 unfold fieldsOk at h
 rw [hf] at h
 simp only [Bool.and_eq_true, Bool.true_and, Bool.true_or, Bool.false_or, decide_eq_true_eq] at h
 exact h.1
theorem fieldsOk_nil {v : Vl} (h : fieldsOk v = true) (hk : v.t = 101) : v.s.length = 0 := by
 unfold fieldsOk at h
 rw [hk] at h
 have hf : fieldsT 101 = (false, false, false, true) := by decide
 rw [hf] at h
 simp only [Bool.and_eq_true, Bool.true_and, Bool.false_or, decide_eq_true_eq] at h
 exact h.1.2
theorem fieldsOk_cases {v : Vl} (h : fieldsOk v = true) : v.t = 0 ∨ v.t = 98 ∨ v.t = 99 ∨ v.t = 100 ∨ v.t = 101 ∨ (v.t ≠ 0 ∧ -5 ≤ v.t ∧ v.t ≤ 5) := by
 by_cases h1 : rAbs v.t = 3
 ·have := rAbs_small h1 (by omega) (by omega)
  omega
 by_cases h2 : v.t ≠ 0 ∧ 1 ≤ rAbs v.t ∧ rAbs v.t ≤ 5
 ·have := rAbs_small (t := v.t) rfl h2.2.1 h2.2.2
  omega
 unfold fieldsOk fieldsT at h
 rw [if_neg h1, if_neg h2] at h
 by_cases h3 : v.t = 0 ∨ v.t = 99
 ·omega
 rw [if_neg h3] at h
 by_cases h4 : v.t = 98
 ·omega
 rw [if_neg h4] at h
 by_cases h5 : v.t = 100
 ·omega
 rw [if_neg h5] at h
 by_cases h6 : v.t = 101
 ·omega
 simp [h6] at h
theorem rPlain_any (v : Vl) (w : World) (B : Nat) (nA : Option Addr) (nc : Nat) (sA : Option Addr) (sc : Nat) (lA : Option Addr) (lc : Nat) (ht : v.tot ≤ 1200000000) (hsz : ∀ s ∈ v.s, s.size ≤ 1200000000) (hf : fieldsOk v = true) (hB : B ≤ w.heap.size) (h : VB w B v nA nc sA sc lA lc) :
  Calls Tryz.prog 86 #[.agg #[.int .i64 v.t, .slice nA v.n.length nc, .slice sA v.s.length sc, .slice lA v.l.length lc]] w fun e w' => e = .returned (.bool (plainV v)) ∧ w.grownBy w' none := by
 by_cases hs : rAtom v.t = true ∧ v.n.length + v.s.length ≠ 1
 ·have hp : plainV v = false := by unfold plainV; rw [if_pos hs]
  rw [hp]
  exact plain_sum v w B nA nc sA sc lA lc ht hsz hB h hs.1 hs.2
 by_cases h0 : v.t = 0
 ·have hp : plainV v = listV v := by unfold plainV; rw [if_neg hs, if_pos h0]
  rw [hp]
  exact plain_list v w B nA nc sA sc lA lc ht hsz hB h h0
 by_cases h98 : v.t = 98
 ·have hp : plainV v = tabV v := by unfold plainV; rw [if_neg hs, if_neg h0, if_pos h98]
  rw [hp]
  exact plain_table v w B nA nc sA sc lA lc ht hsz hB h h98
 by_cases h99 : v.t = 99
 ·have hp : plainV v = dicV v := by unfold plainV; rw [if_neg hs, if_neg h0, if_neg h98, if_pos h99]
  rw [hp]
  by_cases hl2 : v.l.length = 2
  ·obtain ⟨a, b, hl⟩ : ∃ a b, v.l = [a, b] := by
    match e : v.l, hl2 with
    | [a, b], _ => exact ⟨a, b, rfl⟩
   have hd : dicV v = ((rCol a.t && rCol b.t) || (decide (a.t = 98) && decide (b.t = 98))) := by unfold dicV; rw [hl]
   rw [hd]
   cases k0 : rCol a.t with
   | true =>
    cases k1 : rCol b.t with
    | true => exact plain_dictCC v w B nA nc sA sc lA lc ht hsz hB h h99 a b hl k0 k1
    | false =>
     by_cases t0 : a.t = 98
     ·by_cases t1 : b.t = 98
      ·rw [decide_eq_true t0, decide_eq_true t1]
       exact plain_dictCNTT v w B nA nc sA sc lA lc ht hsz hB h h99 a b hl k0 k1 t0 t1
      ·rw [decide_eq_true t0, decide_eq_false t1]
       exact plain_dictCNTN v w B nA nc sA sc lA lc ht hsz hB h h99 a b hl k0 k1 t0 t1
     ·rw [decide_eq_false t0]
      exact plain_dictCNNT v w B nA nc sA sc lA lc ht hsz hB h h99 a b hl k0 k1 t0
   | false =>
    by_cases t0 : a.t = 98
    ·by_cases t1 : b.t = 98
     ·rw [decide_eq_true t0, decide_eq_true t1]
      exact plain_dictNTT v w B nA nc sA sc lA lc ht hsz hB h h99 a b hl k0 t0 t1
     ·rw [decide_eq_true t0, decide_eq_false t1]
      exact plain_dictNTN v w B nA nc sA sc lA lc ht hsz hB h h99 a b hl k0 t0 t1
    ·rw [decide_eq_false t0]
     exact plain_dictNNT v w B nA nc sA sc lA lc ht hsz hB h h99 a b hl k0 t0
  ·have hd : dicV v = false := by
    unfold dicV
    match e : v.l with
    | [] => rfl
    | [_] => rfl
    | [_, _] => rw [e] at hl2; simp at hl2
    | _ :: _ :: _ :: _ => rfl
   rw [hd]
   exact plain_dict0 v w B nA nc sA sc lA lc ht hsz hB h h99 hl2
 by_cases h100 : v.t = 100
 ·have hp : plainV v = lamV v := by unfold plainV; rw [if_neg hs, if_neg h0, if_neg h98, if_neg h99, if_pos h100]
  rw [hp]
  by_cases hl1 : v.s.length = 1
  ·obtain ⟨x, hx⟩ : ∃ x, v.s = [x] := List.length_eq_one_iff.1 hl1
   have hd : lamV v = lamS x := by unfold lamV; rw [hx]
   rw [hd]
   by_cases h2 : 2 ≤ x.size
   ·have hq : lamS x = (decide (x[0] = 123) && decide (x[x.size - 1] = 125)) := by unfold lamS; rw [dif_pos h2]
    rw [hq]
    by_cases h3 : x[0] = 123
    ·obtain ⟨m, hm, h1m⟩ := lam_last h2
     have hme : x[x.size - 1] = x[m] := by congr 1; omega
     rw [hme, decide_eq_true h3]
     by_cases h4 : x[m] = 125
     ·rw [decide_eq_true h4]
      exact plain_lamOk v w B nA nc sA sc lA lc ht hsz hB h h100 x hx m hm h1m h3 h4
     ·rw [decide_eq_false h4]
      exact plain_lamL v w B nA nc sA sc lA lc ht hsz hB h h100 x hx m hm h1m h3 h4
    ·rw [decide_eq_false h3]
     exact plain_lamH v w B nA nc sA sc lA lc ht hsz hB h h100 x hx h2 h3
   ·have hq : lamS x = false := by unfold lamS; rw [dif_neg h2]
    rw [hq]
    exact plain_lamS v w B nA nc sA sc lA lc ht hsz hB h h100 x hx (by omega)
  ·have hd : lamV v = false := by
    unfold lamV
    match e : v.s with
    | [] => rfl
    | [_] => rw [e] at hl1; simp at hl1
    | _ :: _ :: _ => rfl
   rw [hd]
   exact plain_lam0 v w B nA nc sA sc lA lc ht hsz hB h h100 hl1
 have hp0 : plainV v = if rAbs v.t = 1 then bitsV v.n else if rAbs v.t = 3 then v.s.all symS else true := by
  unfold plainV
  rw [if_neg hs, if_neg h0, if_neg h98, if_neg h99, if_neg h100]
 have hc := fieldsOk_cases hf
 by_cases h101 : v.t = 101
 ·have hp : plainV v = true := by
   rw [hp0, rAbs_pos (by omega), if_neg (by omega), if_neg (by omega)]
  rw [hp]
  exact plain_nil v w B nA nc sA sc lA lc ht hsz hB h h101 (fieldsOk_nil hf h101)
 have hb : v.t ≠ 0 ∧ -5 ≤ v.t ∧ v.t ≤ 5 := by omega
 have hra : 1 ≤ rAbs v.t ∧ rAbs v.t ≤ 5 := by unfold rAbs; split <;> omega
 cases hA : rAtom v.t with
 | true =>
  have hsum : v.n.length + v.s.length = 1 := by
   by_cases e : v.n.length + v.s.length = 1
   ·exact e
   ·exact absurd ⟨hA, e⟩ hs
  by_cases k1 : rAbs v.t = 1
  ·rw [hp0, if_pos k1]
   exact plain_boolA v w B nA nc sA sc lA lc ht hsz hB h hA hsum k1 (fieldsOk_num hf (.inl k1))
  by_cases k3 : rAbs v.t = 3
  ·rw [hp0, if_neg k1, if_pos k3]
   exact plain_symA v w B nA nc sA sc lA lc ht hsz hB h hA hsum k3
  rw [hp0, if_neg k1, if_neg k3]
  exact plain_numA v w B nA nc sA sc lA lc ht hsz hB h hA hsum (by omega) (fieldsOk_num hf (by omega))
 | false =>
  by_cases k1 : rAbs v.t = 1
  ·rw [hp0, if_pos k1]
   exact plain_boolV v w B nA nc sA sc lA lc ht hsz hB h hA k1 (fieldsOk_num hf (.inl k1))
  by_cases k3 : rAbs v.t = 3
  ·rw [hp0, if_neg k1, if_pos k3]
   exact plain_symV v w B nA nc sA sc lA lc ht hsz hB h hA k3
  rw [hp0, if_neg k1, if_neg k3]
  exact plain_numV v w B nA nc sA sc lA lc ht hsz hB h hA (by omega) (fieldsOk_num hf (by omega))
end Go.Proofs.YtbmgodmfpoappaaGreat
