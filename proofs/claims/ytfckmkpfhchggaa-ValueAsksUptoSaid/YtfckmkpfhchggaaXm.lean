/-
  formed, the other types (for ValueBuilds).
-/
import Derived.Test.YtfckmkpfhchggaaWb
import Derived.Test.YtfckmkpfhchggaaVi
import Derived.Deep.QuietTactic
import Derived.BigQuiet
import Derived.Test.YtfckmkpfhchggaaXg

namespace Go.Proofs.Ytfckmkpfhchggaa
open Go.RowKit
attribute [local go_sem ↓] Go.wp_at_zero Go.wp_at_succ

set_option maxHeartbeats 4000000 in
set_option maxRecDepth 100000 in
theorem formed_oth (v : Vl) (w : World) (B : Nat) (nA : Option Addr) (nc : Nat) (sA : Option Addr) (sc : Nat) (lA : Option Addr) (lc : Nat) (hatm : atomT v.t = false) (hn1 : v.t ≠ 1) (hnm1 : v.t ≠ -1) (hn3 : v.t ≠ 3) (hnm3 : v.t ≠ -3) (hn0 : v.t ≠ 0) (hn98 : v.t ≠ 98) (hn99 : v.t ≠ 99) (hn100 : v.t ≠ 100) (ht : v.tot ≤ 1100000) (hB : B ≤ w.heap.size) (h : VB w B v nA nc sA sc lA lc) :
    Calls Try.prog 93 #[.agg #[.int .i64 v.t, .slice nA v.n.length nc, .slice sA v.s.length sc, .slice lA v.l.length lc]] w fun e w' => e = .returned (.bool true) ∧ w.grownBy w' none := by
  obtain ⟨l1, l2, l3, l4⟩ := Vl.lens v ht
  obtain ⟨wa, hwa⟩ : ∃ wa, wa = w.alloc (.cells #[.int .i64 v.t, .slice nA v.n.length nc, .slice sA v.s.length sc, .slice lA v.l.length lc] 26) := ⟨_, rfl⟩
  have hg : w.grownBy wa none := by rw [hwa]; exact gb_alloc (gb_refl w none) _
  have hc := C4.box w (.int .i64 v.t) (.slice nA v.n.length nc) (.slice sA v.s.length sc) (.slice lA v.l.length lc) 26
  rw [← hwa] at hc
  have b0 : wa.cell? ⟨w.heap.size, 0, none⟩ = some (.int .i64 v.t) := hc.c0
  have b1 : wa.cell? ⟨w.heap.size, 1, none⟩ = some (.slice nA v.n.length nc) := hc.c1
  have b2 : wa.cell? ⟨w.heap.size, 2, none⟩ = some (.slice sA v.s.length sc) := hc.c2
  have b3 : wa.cell? ⟨w.heap.size, 3, none⟩ = some (.slice lA v.l.length lc) := hc.c3
  have hbw := Nat.le_trans hB hg.size
  have HV := hide (h.gb hg hB)
  have HG := hide hg
  have HWE := hide hwa
  have HIA := hide (fun w2 => isAtom_any v.t (.slice nA v.n.length nc) (.slice sA v.s.length sc) (.slice lA v.l.length lc) w2)
  have hat : atomT v.t = false := hatm
  rw [hat] at HIA
  have e_1 : (v.t == 1) = false := by rw [beq_eq_false_iff_ne]; exact hn1
  have e_m1 : (v.t == -1) = false := by rw [beq_eq_false_iff_ne]; exact hnm1
  have e_3 : (v.t == 3) = false := by rw [beq_eq_false_iff_ne]; exact hn3
  have e_m3 : (v.t == -3) = false := by rw [beq_eq_false_iff_ne]; exact hnm3
  have e_0 : (v.t == 0) = false := by rw [beq_eq_false_iff_ne]; exact hn0
  have e_98 : (v.t == 98) = false := by rw [beq_eq_false_iff_ne]; exact hn98
  have e_99 : (v.t == 99) = false := by rw [beq_eq_false_iff_ne]; exact hn99
  have e_100 : (v.t == 100) = false := by rw [beq_eq_false_iff_ne]; exact hn100
  clear ht hB h hg hwa hc hbw hat hatm hn1 hnm1 hn3 hnm3 hn0 hn98 hn99 hn100
  go_enter Try.func93, Try.ntmps93
  go_wp2_with fail
  rw [← HWE.out]
  refine (HIA.out wa).mono ?_
  rintro e w1 ⟨rfl, hg1⟩
  have c0 := cell_gb b0 hg1
  have c1 := cell_gb b1 hg1
  have c2 := cell_gb b2 hg1
  have c3 := cell_gb b3 hg1
  have HG1 := hide hg1
  clear hg1
  go_wp2_with fail
  go_ret
  exact ⟨rfl, gb_trans HG.out HG1.out (.inl rfl)⟩
set_option maxHeartbeats 4000000 in
set_option maxRecDepth 100000 in
theorem formed_atm (v : Vl) (w : World) (B : Nat) (nA : Option Addr) (nc : Nat) (sA : Option Addr) (sc : Nat) (lA : Option Addr) (lc : Nat) (hatm : atomT v.t = true) (hone : v.n.length + v.s.length = 1) (hn1 : v.t ≠ 1) (hnm1 : v.t ≠ -1) (hn3 : v.t ≠ 3) (hnm3 : v.t ≠ -3) (hn0 : v.t ≠ 0) (hn98 : v.t ≠ 98) (hn99 : v.t ≠ 99) (hn100 : v.t ≠ 100) (ht : v.tot ≤ 1100000) (hB : B ≤ w.heap.size) (h : VB w B v nA nc sA sc lA lc) :
    Calls Try.prog 93 #[.agg #[.int .i64 v.t, .slice nA v.n.length nc, .slice sA v.s.length sc, .slice lA v.l.length lc]] w fun e w' => e = .returned (.bool true) ∧ w.grownBy w' none := by
  obtain ⟨l1, l2, l3, l4⟩ := Vl.lens v ht
  obtain ⟨wa, hwa⟩ : ∃ wa, wa = w.alloc (.cells #[.int .i64 v.t, .slice nA v.n.length nc, .slice sA v.s.length sc, .slice lA v.l.length lc] 26) := ⟨_, rfl⟩
  have hg : w.grownBy wa none := by rw [hwa]; exact gb_alloc (gb_refl w none) _
  have hc := C4.box w (.int .i64 v.t) (.slice nA v.n.length nc) (.slice sA v.s.length sc) (.slice lA v.l.length lc) 26
  rw [← hwa] at hc
  have b0 : wa.cell? ⟨w.heap.size, 0, none⟩ = some (.int .i64 v.t) := hc.c0
  have b1 : wa.cell? ⟨w.heap.size, 1, none⟩ = some (.slice nA v.n.length nc) := hc.c1
  have b2 : wa.cell? ⟨w.heap.size, 2, none⟩ = some (.slice sA v.s.length sc) := hc.c2
  have b3 : wa.cell? ⟨w.heap.size, 3, none⟩ = some (.slice lA v.l.length lc) := hc.c3
  have hbw := Nat.le_trans hB hg.size
  have HV := hide (h.gb hg hB)
  have HG := hide hg
  have HWE := hide hwa
  have HIA := hide (fun w2 => isAtom_any v.t (.slice nA v.n.length nc) (.slice sA v.s.length sc) (.slice lA v.l.length lc) w2)
  have hat : atomT v.t = true := hatm
  rw [hat] at HIA
  have hw1 : IntKind.i64.wrap ((v.n.length : Int) + (v.s.length : Int)) = 1 := by
    rw [show (v.n.length : Int) + (v.s.length : Int) = 1 by omega]; rfl
  have e_1 : (v.t == 1) = false := by rw [beq_eq_false_iff_ne]; exact hn1
  have e_m1 : (v.t == -1) = false := by rw [beq_eq_false_iff_ne]; exact hnm1
  have e_3 : (v.t == 3) = false := by rw [beq_eq_false_iff_ne]; exact hn3
  have e_m3 : (v.t == -3) = false := by rw [beq_eq_false_iff_ne]; exact hnm3
  have e_0 : (v.t == 0) = false := by rw [beq_eq_false_iff_ne]; exact hn0
  have e_98 : (v.t == 98) = false := by rw [beq_eq_false_iff_ne]; exact hn98
  have e_99 : (v.t == 99) = false := by rw [beq_eq_false_iff_ne]; exact hn99
  have e_100 : (v.t == 100) = false := by rw [beq_eq_false_iff_ne]; exact hn100
  clear ht hB h hg hwa hc hbw hat hatm hone hn1 hnm1 hn3 hnm3 hn0 hn98 hn99 hn100
  go_enter Try.func93, Try.ntmps93
  go_wp2_with fail
  rw [← HWE.out]
  refine (HIA.out wa).mono ?_
  rintro e w1 ⟨rfl, hg1⟩
  have c0 := cell_gb b0 hg1
  have c1 := cell_gb b1 hg1
  have c2 := cell_gb b2 hg1
  have c3 := cell_gb b3 hg1
  have HG1 := hide hg1
  clear hg1
  go_wp2_with fail
  go_ret
  exact ⟨rfl, gb_trans HG.out HG1.out (.inl rfl)⟩
set_option maxHeartbeats 4000000 in
set_option maxRecDepth 100000 in
theorem formed_dict_seq (v : Vl) (w : World) (B : Nat) (nA : Option Addr) (nc : Nat) (sA : Option Addr) (sc : Nat) (lA : Option Addr) (lc : Nat) (htab : v.t = 99) (hl2 : v.l.length = 2) (hsq : v.l.all isSeq = true) (ht : v.tot ≤ 1100000) (hB : B ≤ w.heap.size) (h : VB w B v nA nc sA sc lA lc) :
    Calls Try.prog 93 #[.agg #[.int .i64 v.t, .slice nA v.n.length nc, .slice sA v.s.length sc, .slice lA v.l.length lc]] w fun e w' => e = .returned (.bool true) ∧ w.grownBy w' none := by
  obtain ⟨l1, l2, l3, l4⟩ := Vl.lens v ht
  obtain ⟨wa, hwa⟩ : ∃ wa, wa = w.alloc (.cells #[.int .i64 v.t, .slice nA v.n.length nc, .slice sA v.s.length sc, .slice lA v.l.length lc] 26) := ⟨_, rfl⟩
  have hg : w.grownBy wa none := by rw [hwa]; exact gb_alloc (gb_refl w none) _
  have hc := C4.box w (.int .i64 v.t) (.slice nA v.n.length nc) (.slice sA v.s.length sc) (.slice lA v.l.length lc) 26
  rw [← hwa] at hc
  have b0 : wa.cell? ⟨w.heap.size, 0, none⟩ = some (.int .i64 v.t) := hc.c0
  have b1 : wa.cell? ⟨w.heap.size, 1, none⟩ = some (.slice nA v.n.length nc) := hc.c1
  have b2 : wa.cell? ⟨w.heap.size, 2, none⟩ = some (.slice sA v.s.length sc) := hc.c2
  have b3 : wa.cell? ⟨w.heap.size, 3, none⟩ = some (.slice lA v.l.length lc) := hc.c3
  have hbw := Nat.le_trans hB hg.size
  have HV := hide (h.gb hg hB)
  have HG := hide hg
  have HWE := hide hwa
  have HIA := hide (fun w2 => isAtom_any v.t (.slice nA v.n.length nc) (.slice sA v.s.length sc) (.slice lA v.l.length lc) w2)
  have hat : atomT v.t = false := by rw [htab]; rfl
  rw [hat] at HIA
  have HSQ := hide (fun w2 (k : wa.grownBy w2 none) => isSeq_all v.l w2 B lA lc l3 (Nat.le_trans hbw k.size) ((h.gb hg hB).gb k hbw).l)
  have HTB := hide (fun w2 (k : wa.grownBy w2 none) => isTab_all v.l w2 B lA lc l3 (Nat.le_trans hbw k.size) ((h.gb hg hB).gb k hbw).l)
  have els : ((v.l.length : Int) == 2) = true := beq_iff_eq.2 (by omega)
  rw [hsq] at HSQ
  have e_1 : (v.t == 1) = false := by rw [htab]; rfl
  have e_m1 : (v.t == -1) = false := by rw [htab]; rfl
  have e_3 : (v.t == 3) = false := by rw [htab]; rfl
  have e_m3 : (v.t == -3) = false := by rw [htab]; rfl
  have e_0 : (v.t == 0) = false := by rw [htab]; rfl
  have e_98 : (v.t == 98) = false := by rw [htab]; rfl
  have e_99 : (v.t == 99) = true := by rw [htab]; rfl
  have e_100 : (v.t == 100) = false := by rw [htab]; rfl
  clear ht hB h hg hwa hc hbw hat htab hl2 hsq
  go_enter Try.func93, Try.ntmps93
  go_wp2_with fail
  rw [← HWE.out]
  refine (HIA.out wa).mono ?_
  rintro e w1 ⟨rfl, hg1⟩
  have c0 := cell_gb b0 hg1
  have c1 := cell_gb b1 hg1
  have c2 := cell_gb b2 hg1
  have c3 := cell_gb b3 hg1
  have HG1 := hide hg1
  clear hg1
  go_wp2_with (first
    | (go_at_call 46; (with_reducible refine (HSQ.out w1 HG1.out).mono ?_); rintro e w2 ⟨rfl, hg2⟩; have f3 := cell_gb c3 hg2; have HG2 := hide (gb_trans HG1.out hg2 (.inl rfl)); clear hg2))
  go_ret
  exact ⟨rfl, gb_trans HG.out HG2.out (.inl rfl)⟩
set_option maxHeartbeats 4000000 in
set_option maxRecDepth 100000 in
theorem formed_dict_tab (v : Vl) (w : World) (B : Nat) (nA : Option Addr) (nc : Nat) (sA : Option Addr) (sc : Nat) (lA : Option Addr) (lc : Nat) (htab : v.t = 99) (hl2 : v.l.length = 2) (hsq : v.l.all isSeq = false) (htb : v.l.all isTab = true) (ht : v.tot ≤ 1100000) (hB : B ≤ w.heap.size) (h : VB w B v nA nc sA sc lA lc) :
    Calls Try.prog 93 #[.agg #[.int .i64 v.t, .slice nA v.n.length nc, .slice sA v.s.length sc, .slice lA v.l.length lc]] w fun e w' => e = .returned (.bool true) ∧ w.grownBy w' none := by
  obtain ⟨l1, l2, l3, l4⟩ := Vl.lens v ht
  obtain ⟨wa, hwa⟩ : ∃ wa, wa = w.alloc (.cells #[.int .i64 v.t, .slice nA v.n.length nc, .slice sA v.s.length sc, .slice lA v.l.length lc] 26) := ⟨_, rfl⟩
  have hg : w.grownBy wa none := by rw [hwa]; exact gb_alloc (gb_refl w none) _
  have hc := C4.box w (.int .i64 v.t) (.slice nA v.n.length nc) (.slice sA v.s.length sc) (.slice lA v.l.length lc) 26
  rw [← hwa] at hc
  have b0 : wa.cell? ⟨w.heap.size, 0, none⟩ = some (.int .i64 v.t) := hc.c0
  have b1 : wa.cell? ⟨w.heap.size, 1, none⟩ = some (.slice nA v.n.length nc) := hc.c1
  have b2 : wa.cell? ⟨w.heap.size, 2, none⟩ = some (.slice sA v.s.length sc) := hc.c2
  have b3 : wa.cell? ⟨w.heap.size, 3, none⟩ = some (.slice lA v.l.length lc) := hc.c3
  have hbw := Nat.le_trans hB hg.size
  have HV := hide (h.gb hg hB)
  have HG := hide hg
  have HWE := hide hwa
  have HIA := hide (fun w2 => isAtom_any v.t (.slice nA v.n.length nc) (.slice sA v.s.length sc) (.slice lA v.l.length lc) w2)
  have hat : atomT v.t = false := by rw [htab]; rfl
  rw [hat] at HIA
  have HSQ := hide (fun w2 (k : wa.grownBy w2 none) => isSeq_all v.l w2 B lA lc l3 (Nat.le_trans hbw k.size) ((h.gb hg hB).gb k hbw).l)
  have HTB := hide (fun w2 (k : wa.grownBy w2 none) => isTab_all v.l w2 B lA lc l3 (Nat.le_trans hbw k.size) ((h.gb hg hB).gb k hbw).l)
  have els : ((v.l.length : Int) == 2) = true := beq_iff_eq.2 (by omega)
  rw [hsq] at HSQ
  rw [htb] at HTB
  have e_1 : (v.t == 1) = false := by rw [htab]; rfl
  have e_m1 : (v.t == -1) = false := by rw [htab]; rfl
  have e_3 : (v.t == 3) = false := by rw [htab]; rfl
  have e_m3 : (v.t == -3) = false := by rw [htab]; rfl
  have e_0 : (v.t == 0) = false := by rw [htab]; rfl
  have e_98 : (v.t == 98) = false := by rw [htab]; rfl
  have e_99 : (v.t == 99) = true := by rw [htab]; rfl
  have e_100 : (v.t == 100) = false := by rw [htab]; rfl
  clear ht hB h hg hwa hc hbw hat htab hl2 hsq htb
  go_enter Try.func93, Try.ntmps93
  go_wp2_with fail
  rw [← HWE.out]
  refine (HIA.out wa).mono ?_
  rintro e w1 ⟨rfl, hg1⟩
  have c0 := cell_gb b0 hg1
  have c1 := cell_gb b1 hg1
  have c2 := cell_gb b2 hg1
  have c3 := cell_gb b3 hg1
  have HG1 := hide hg1
  clear hg1
  go_wp2_with (first
    | (go_at_call 46; (with_reducible refine (HSQ.out w1 HG1.out).mono ?_); rintro e w2 ⟨rfl, hg2⟩; have f3 := cell_gb c3 hg2; have HG2 := hide (gb_trans HG1.out hg2 (.inl rfl)); clear hg2)
    | (go_at_call 46; (with_reducible refine (HTB.out w2 HG2.out).mono ?_); rintro e w3 ⟨rfl, hg3⟩; have HG3 := hide (gb_trans HG2.out hg3 (.inl rfl)); clear hg3))
  go_ret
  exact ⟨rfl, gb_trans HG.out HG3.out (.inl rfl)⟩
end Go.Proofs.Ytfckmkpfhchggaa

/- formed: bools, symbols' atoms, lists, lambdas (for ValueBuilds). -/
namespace Go.Proofs.Ytfckmkpfhchggaa
open Go.RowKit
attribute [local go_sem ↓] Go.wp_at_zero Go.wp_at_succ

/-- Neither 0 nor 1. -/
def nb (n : Int) : Bool := n != 0 && n != 1
def isNl (v : Vl) : Bool := v.t == 101
set_option maxHeartbeats 4000000 in
theorem nb_any (n : Int) (w : World) : Calls Try.prog 99 #[.int .i64 n] w fun e w' => e = .returned (.bool (nb n)) ∧ w.grownBy w' none := by
  by_cases h0 : n = 0
  · subst h0
    go_enter Try.func99, Try.ntmps99
    go_wp2_with fail
    go_ret
    exact ⟨rfl, gb_refl w none⟩
  · have e0 : (n != 0) = true := int_bne_f h0
    have HN := hide (show (n != 1) = nb n by unfold nb; rw [e0]; rfl)
    clear h0
    go_enter Try.func99, Try.ntmps99
    go_wp2_with fail
    go_ret
    exact ⟨ret_b HN.out, gb_refl w none⟩
set_option maxHeartbeats 4000000 in
set_option maxRecDepth 100000 in
theorem isNl_any (v : Vl) (c1 c2 c3 : Value) (w : World) : Calls Try.prog 101 #[.agg #[.int .i64 v.t, c1, c2, c3]] w fun e w' => e = .returned (.bool (isNl v)) ∧ w.grownBy w' none := by
  have HA := hide (show (v.t == 101) = isNl v from rfl)
  go_enter Try.func101, Try.ntmps101
  go_wp2_with fail
  go_ret
  exact ⟨ret_b HA.out, gb_alloc (gb_refl w none) _⟩
set_option maxHeartbeats 4000000 in
set_option maxRecDepth 100000 in
theorem nb_idx  (l : List Int) (w : World) (B : Nat) (A : Option Addr) (c : Nat) (hl : l.length ≤ 1100000) (hB : B ≤ w.heap.size) (h : Rd w B A (i64s l))  :
    Calls Try.prog 105 #[.slice A l.length c, .func (.func 99) #[] #[]] w (IdxPost (l.any nb) w) := by
  have H := hide h
  have HB := hide hB
  clear h hB
  go_enter Try.func105, Try.ntmps105
  go_wp2_with fail
  go_loopw [8] (fun i wr => ∃ j : Nat, i = .int .i64 (j : Int) ∧ j ≤ l.length ∧ Hid ((l.take j).any nb = false) ∧ w.grownBy wr none) (fun i _ => l.length - (intOf i).toNat)
  case atStart => exact ⟨0, rfl, Nat.zero_le _, hide (by simp), gb_refl w none⟩
  case round =>
    obtain ⟨j, rfl, hj, HE, hgr⟩ := hrel
    have HGR := hide hgr
    clear hgr
    by_cases hlt : j < l.length
    · have hlt1 : (j : Int) < (l.length : Int) := by omega
      obtain ⟨a, rfl, _, ca⟩ := H.out.i64 hlt
      have ca := cell_gb ca HGR.out
      have HC := hide (nb_any l[j] wr)
      have HL := hide (show l.take (j + 1) = l.take j ++ [l[j]] from List.take_succ_eq_append_getElem hlt)
      have HA : Hid ((nb) l[j] = true → l.any nb = true) := hide (fun h => List.any_eq_true.2 ⟨_, List.getElem_mem hlt, h⟩)
      cases hp : (nb) l[j]
      · rw [hp] at HC
        have HP := hide hp
        clear hp
        go_wp2_with (go_at_call 99; refine HC.out.mono ?_; rintro e w1 ⟨rfl, hg1⟩; have HG1 := hide hg1; clear hg1)
        go_roundw
        case rel => exact ⟨j + 1, by go_num, by omega, hide (by rw [HL.out, List.any_append, HE.out]; simp [HP.out]), gb_trans HGR.out HG1.out (.inl rfl)⟩
        case measure => simp [intOf]; omega
      · rw [hp] at HC
        have HA2 := hide (HA.out hp)
        clear hp
        go_wp2_with (go_at_call 99; refine HC.out.mono ?_; rintro e w1 ⟨rfl, hg1⟩; have HG1 := hide hg1; clear hg1)
        go_ret
        exact ⟨j, rfl, by rw [HA2.out]; exact decide_eq_true (by omega), gb_trans HGR.out HG1.out (.inl rfl)⟩
    · have hlt1 : ¬ (j : Int) < (l.length : Int) := by omega
      have HT := hide (show l.take j = l from List.take_of_length_le (by omega))
      go_wp2_with fail
      go_ret
      exact ⟨-1, rfl, by have := HE.out; rw [HT.out] at this; rw [this]; rfl, HGR.out⟩
set_option maxHeartbeats 4000000 in
set_option maxRecDepth 100000 in
theorem nb_has  (l : List Int) (w : World) (B : Nat) (A : Option Addr) (c : Nat) (hl : l.length ≤ 1100000) (hB : B ≤ w.heap.size) (h : Rd w B A (i64s l))  :
    Calls Try.prog 98 #[.slice A l.length c, .func (.func 99) #[] #[]] w fun e w' => e = .returned (.bool (l.any nb)) ∧ w.grownBy w' none := by
  have HI := hide (nb_idx  l w B A c hl hB h )
  clear h hB
  generalize l.any nb = b at *
  go_enter Try.func98, Try.ntmps98
  go_wp2_with (go_at_call 105; refine HI.out.mono ?_; rintro e w1 ⟨r, rfl, hr, hg1⟩; have HR := hide hr; have HG1 := hide hg1; clear hr hg1)
  go_ret
  exact ⟨ret_b (by rw [← HR.out]), HG1.out⟩

set_option maxHeartbeats 4000000 in
set_option maxRecDepth 100000 in
theorem isNil_idx (l : List Vl) (w : World) (B : Nat) (A : Option Addr) (c : Nat) (hl : l.length ≤ 1100000) (hB : B ≤ w.heap.size) (h : RdV w B A l) :
    Calls Try.prog 87 #[.slice A l.length c, .func (.func 101) #[] #[]] w (IdxPost (l.any isNl) w) := by
  have H := hide h
  have HB := hide hB
  clear h hB
  go_enter Try.func87, Try.ntmps87
  go_wp2_with fail
  go_loopw [8] (fun i wr => ∃ j : Nat, i = .int .i64 (j : Int) ∧ j ≤ l.length ∧ Hid ((l.take j).any isNl = false) ∧ w.grownBy wr none) (fun i _ => l.length - (intOf i).toNat)
  case atStart => exact ⟨0, rfl, Nat.zero_le _, hide (by simp), gb_refl w none⟩
  case round =>
    obtain ⟨j, rfl, hj, HE, hgr⟩ := hrel
    have HGR := hide hgr
    clear hgr
    by_cases hlt : j < l.length
    · have hlt1 : (j : Int) < (l.length : Int) := by omega
      obtain ⟨q, o, xA, xc, yA, yc, zA, zc, rfl, hqB, hc4, _⟩ := H.out.at_ hlt
      obtain ⟨d0, d1, d2, d3⟩ := hc4.gb HGR.out
      have HC := hide (isNl_any l[j] (.slice xA l[j].n.length xc) (.slice yA l[j].s.length yc) (.slice zA l[j].l.length zc) wr)
      have HL := hide (show l.take (j + 1) = l.take j ++ [l[j]] from List.take_succ_eq_append_getElem hlt)
      have HA : Hid (isNl l[j] = true → l.any isNl = true) := hide (fun h => List.any_eq_true.2 ⟨_, List.getElem_mem hlt, h⟩)
      clear hc4
      cases hp : isNl l[j]
      · rw [hp] at HC
        have HP := hide hp
        clear hp
        go_wp2_with (go_at_call 101; refine HC.out.mono ?_; rintro e w1 ⟨rfl, hg1⟩; have HG1 := hide hg1; clear hg1)
        go_roundw
        case rel => exact ⟨j + 1, by go_num, by omega, hide (by rw [HL.out, List.any_append, HE.out]; simp [HP.out]), gb_trans HGR.out HG1.out (.inl rfl)⟩
        case measure => simp [intOf]; omega
      · rw [hp] at HC
        have HA2 := hide (HA.out hp)
        clear hp
        go_wp2_with (go_at_call 101; refine HC.out.mono ?_; rintro e w1 ⟨rfl, hg1⟩; have HG1 := hide hg1; clear hg1)
        go_ret
        exact ⟨j, rfl, by rw [HA2.out]; exact decide_eq_true (by omega), gb_trans HGR.out HG1.out (.inl rfl)⟩
    · have hlt1 : ¬ (j : Int) < (l.length : Int) := by omega
      have HT := hide (show l.take j = l from List.take_of_length_le (by omega))
      go_wp2_with fail
      go_ret
      exact ⟨-1, rfl, by have := HE.out; rw [HT.out] at this; rw [this]; rfl, HGR.out⟩

set_option maxHeartbeats 4000000 in
set_option maxRecDepth 100000 in
theorem isNil_has  (l : List Vl) (w : World) (B : Nat) (A : Option Addr) (c : Nat) (hl : l.length ≤ 1100000) (hB : B ≤ w.heap.size) (h : RdV w B A l)  :
    Calls Try.prog 76 #[.slice A l.length c, .func (.func 101) #[] #[]] w fun e w' => e = .returned (.bool (l.any isNl)) ∧ w.grownBy w' none := by
  have HI := hide (isNil_idx  l w B A c hl hB h )
  clear h hB
  generalize l.any isNl = b at *
  go_enter Try.func76, Try.ntmps76
  go_wp2_with (go_at_call 87; refine HI.out.mono ?_; rintro e w1 ⟨r, rfl, hr, hg1⟩; have HR := hide hr; have HG1 := hide hg1; clear hr hg1)
  go_ret
  exact ⟨ret_b (by rw [← HR.out]), HG1.out⟩

set_option maxHeartbeats 4000000 in
set_option maxRecDepth 100000 in
theorem formed_bool (v : Vl) (w : World) (B : Nat) (nA : Option Addr) (nc : Nat) (sA : Option Addr) (sc : Nat) (lA : Option Addr) (lc : Nat) (htab : v.t = 1) (hz : v.n.any nb = false) (ht : v.tot ≤ 1100000) (hB : B ≤ w.heap.size) (h : VB w B v nA nc sA sc lA lc) :
    Calls Try.prog 93 #[.agg #[.int .i64 v.t, .slice nA v.n.length nc, .slice sA v.s.length sc, .slice lA v.l.length lc]] w fun e w' => e = .returned (.bool true) ∧ w.grownBy w' none := by
  obtain ⟨l1, l2, l3, l4⟩ := Vl.lens v ht
  obtain ⟨wa, hwa⟩ : ∃ wa, wa = w.alloc (.cells #[.int .i64 v.t, .slice nA v.n.length nc, .slice sA v.s.length sc, .slice lA v.l.length lc] 26) := ⟨_, rfl⟩
  have hg : w.grownBy wa none := by rw [hwa]; exact gb_alloc (gb_refl w none) _
  have hc := C4.box w (.int .i64 v.t) (.slice nA v.n.length nc) (.slice sA v.s.length sc) (.slice lA v.l.length lc) 26
  rw [← hwa] at hc
  have b0 : wa.cell? ⟨w.heap.size, 0, none⟩ = some (.int .i64 v.t) := hc.c0
  have b1 : wa.cell? ⟨w.heap.size, 1, none⟩ = some (.slice nA v.n.length nc) := hc.c1
  have b2 : wa.cell? ⟨w.heap.size, 2, none⟩ = some (.slice sA v.s.length sc) := hc.c2
  have b3 : wa.cell? ⟨w.heap.size, 3, none⟩ = some (.slice lA v.l.length lc) := hc.c3
  have hbw := Nat.le_trans hB hg.size
  have HV := hide (h.gb hg hB)
  have HG := hide hg
  have HWE := hide hwa
  have HIA := hide (fun w2 => isAtom_any v.t (.slice nA v.n.length nc) (.slice sA v.s.length sc) (.slice lA v.l.length lc) w2)
  have hat : atomT v.t = false := by rw [htab]; rfl
  rw [hat] at HIA
  have HNB := hide (fun w2 (k : wa.grownBy w2 none) => nb_has v.n w2 B nA nc l1 (Nat.le_trans hbw k.size) ((h.gb hg hB).gb k hbw).n)
  rw [hz] at HNB
  have e_1 : (v.t == 1) = true := by rw [htab]; rfl
  have e_m1 : (v.t == -1) = false := by rw [htab]; rfl
  have e_3 : (v.t == 3) = false := by rw [htab]; rfl
  have e_m3 : (v.t == -3) = false := by rw [htab]; rfl
  have e_0 : (v.t == 0) = false := by rw [htab]; rfl
  have e_98 : (v.t == 98) = false := by rw [htab]; rfl
  have e_99 : (v.t == 99) = false := by rw [htab]; rfl
  have e_100 : (v.t == 100) = false := by rw [htab]; rfl
  clear ht hB h hg hwa hc hbw hat htab hz
  go_enter Try.func93, Try.ntmps93
  go_wp2_with fail
  rw [← HWE.out]
  refine (HIA.out wa).mono ?_
  rintro e w1 ⟨rfl, hg1⟩
  have c0 := cell_gb b0 hg1
  have c1 := cell_gb b1 hg1
  have c2 := cell_gb b2 hg1
  have c3 := cell_gb b3 hg1
  have HG1 := hide hg1
  clear hg1
  go_wp2_with (go_at_call 98; (with_reducible refine (HNB.out w1 HG1.out).mono ?_); rintro e w2 ⟨rfl, hg2⟩; have HG2 := hide (gb_trans HG1.out hg2 (.inl rfl)); clear hg2)
  go_ret
  exact ⟨rfl, gb_trans HG.out HG2.out (.inl rfl)⟩
set_option maxHeartbeats 4000000 in
set_option maxRecDepth 100000 in
theorem formed_batm (v : Vl) (w : World) (B : Nat) (nA : Option Addr) (nc : Nat) (sA : Option Addr) (sc : Nat) (lA : Option Addr) (lc : Nat) (htab : v.t = -1) (hone : v.n.length + v.s.length = 1) (hz : v.n.any nb = false) (ht : v.tot ≤ 1100000) (hB : B ≤ w.heap.size) (h : VB w B v nA nc sA sc lA lc) :
    Calls Try.prog 93 #[.agg #[.int .i64 v.t, .slice nA v.n.length nc, .slice sA v.s.length sc, .slice lA v.l.length lc]] w fun e w' => e = .returned (.bool true) ∧ w.grownBy w' none := by
  obtain ⟨l1, l2, l3, l4⟩ := Vl.lens v ht
  obtain ⟨wa, hwa⟩ : ∃ wa, wa = w.alloc (.cells #[.int .i64 v.t, .slice nA v.n.length nc, .slice sA v.s.length sc, .slice lA v.l.length lc] 26) := ⟨_, rfl⟩
  have hg : w.grownBy wa none := by rw [hwa]; exact gb_alloc (gb_refl w none) _
  have hc := C4.box w (.int .i64 v.t) (.slice nA v.n.length nc) (.slice sA v.s.length sc) (.slice lA v.l.length lc) 26
  rw [← hwa] at hc
  have b0 : wa.cell? ⟨w.heap.size, 0, none⟩ = some (.int .i64 v.t) := hc.c0
  have b1 : wa.cell? ⟨w.heap.size, 1, none⟩ = some (.slice nA v.n.length nc) := hc.c1
  have b2 : wa.cell? ⟨w.heap.size, 2, none⟩ = some (.slice sA v.s.length sc) := hc.c2
  have b3 : wa.cell? ⟨w.heap.size, 3, none⟩ = some (.slice lA v.l.length lc) := hc.c3
  have hbw := Nat.le_trans hB hg.size
  have HV := hide (h.gb hg hB)
  have HG := hide hg
  have HWE := hide hwa
  have HIA := hide (fun w2 => isAtom_any v.t (.slice nA v.n.length nc) (.slice sA v.s.length sc) (.slice lA v.l.length lc) w2)
  have hat : atomT v.t = true := by rw [htab]; rfl
  rw [hat] at HIA
  have HNB := hide (fun w2 (k : wa.grownBy w2 none) => nb_has v.n w2 B nA nc l1 (Nat.le_trans hbw k.size) ((h.gb hg hB).gb k hbw).n)
  rw [hz] at HNB
  have hw1 : IntKind.i64.wrap ((v.n.length : Int) + (v.s.length : Int)) = 1 := by
    rw [show (v.n.length : Int) + (v.s.length : Int) = 1 by omega]; rfl
  have e_1 : (v.t == 1) = false := by rw [htab]; rfl
  have e_m1 : (v.t == -1) = true := by rw [htab]; rfl
  have e_3 : (v.t == 3) = false := by rw [htab]; rfl
  have e_m3 : (v.t == -3) = false := by rw [htab]; rfl
  have e_0 : (v.t == 0) = false := by rw [htab]; rfl
  have e_98 : (v.t == 98) = false := by rw [htab]; rfl
  have e_99 : (v.t == 99) = false := by rw [htab]; rfl
  have e_100 : (v.t == 100) = false := by rw [htab]; rfl
  clear ht hB h hg hwa hc hbw hat htab hone hz
  go_enter Try.func93, Try.ntmps93
  go_wp2_with fail
  rw [← HWE.out]
  refine (HIA.out wa).mono ?_
  rintro e w1 ⟨rfl, hg1⟩
  have c0 := cell_gb b0 hg1
  have c1 := cell_gb b1 hg1
  have c2 := cell_gb b2 hg1
  have c3 := cell_gb b3 hg1
  have HG1 := hide hg1
  clear hg1
  go_wp2_with (go_at_call 98; (with_reducible refine (HNB.out w1 HG1.out).mono ?_); rintro e w2 ⟨rfl, hg2⟩; have HG2 := hide (gb_trans HG1.out hg2 (.inl rfl)); clear hg2)
  go_ret
  exact ⟨rfl, gb_trans HG.out HG2.out (.inl rfl)⟩
set_option maxHeartbeats 4000000 in
set_option maxRecDepth 100000 in
theorem formed_satm (v : Vl) (w : World) (B : Nat) (nA : Option Addr) (nc : Nat) (sA : Option Addr) (sc : Nat) (lA : Option Addr) (lc : Nat) (htab : v.t = -3) (hone : v.n.length + v.s.length = 1) (hz : v.s.any hasZ = false) (ht : v.tot ≤ 1100000) (hB : B ≤ w.heap.size) (h : VB w B v nA nc sA sc lA lc) :
    Calls Try.prog 93 #[.agg #[.int .i64 v.t, .slice nA v.n.length nc, .slice sA v.s.length sc, .slice lA v.l.length lc]] w fun e w' => e = .returned (.bool true) ∧ w.grownBy w' none := by
  obtain ⟨l1, l2, l3, l4⟩ := Vl.lens v ht
  obtain ⟨wa, hwa⟩ : ∃ wa, wa = w.alloc (.cells #[.int .i64 v.t, .slice nA v.n.length nc, .slice sA v.s.length sc, .slice lA v.l.length lc] 26) := ⟨_, rfl⟩
  have hg : w.grownBy wa none := by rw [hwa]; exact gb_alloc (gb_refl w none) _
  have hc := C4.box w (.int .i64 v.t) (.slice nA v.n.length nc) (.slice sA v.s.length sc) (.slice lA v.l.length lc) 26
  rw [← hwa] at hc
  have b0 : wa.cell? ⟨w.heap.size, 0, none⟩ = some (.int .i64 v.t) := hc.c0
  have b1 : wa.cell? ⟨w.heap.size, 1, none⟩ = some (.slice nA v.n.length nc) := hc.c1
  have b2 : wa.cell? ⟨w.heap.size, 2, none⟩ = some (.slice sA v.s.length sc) := hc.c2
  have b3 : wa.cell? ⟨w.heap.size, 3, none⟩ = some (.slice lA v.l.length lc) := hc.c3
  have hbw := Nat.le_trans hB hg.size
  have HV := hide (h.gb hg hB)
  have HG := hide hg
  have HWE := hide hwa
  have HIA := hide (fun w2 => isAtom_any v.t (.slice nA v.n.length nc) (.slice sA v.s.length sc) (.slice lA v.l.length lc) w2)
  have hat : atomT v.t = true := by rw [htab]; rfl
  rw [hat] at HIA
  have HZ := hide (fun w2 (k : wa.grownBy w2 none) => hasZ_has v.s w2 B sA sc l2 (Nat.le_trans hbw k.size) ((h.gb hg hB).gb k hbw).s)
  rw [hz] at HZ
  have hw1 : IntKind.i64.wrap ((v.n.length : Int) + (v.s.length : Int)) = 1 := by
    rw [show (v.n.length : Int) + (v.s.length : Int) = 1 by omega]; rfl
  have e_1 : (v.t == 1) = false := by rw [htab]; rfl
  have e_m1 : (v.t == -1) = false := by rw [htab]; rfl
  have e_3 : (v.t == 3) = false := by rw [htab]; rfl
  have e_m3 : (v.t == -3) = true := by rw [htab]; rfl
  have e_0 : (v.t == 0) = false := by rw [htab]; rfl
  have e_98 : (v.t == 98) = false := by rw [htab]; rfl
  have e_99 : (v.t == 99) = false := by rw [htab]; rfl
  have e_100 : (v.t == 100) = false := by rw [htab]; rfl
  clear ht hB h hg hwa hc hbw hat htab hone hz
  go_enter Try.func93, Try.ntmps93
  go_wp2_with fail
  rw [← HWE.out]
  refine (HIA.out wa).mono ?_
  rintro e w1 ⟨rfl, hg1⟩
  have c0 := cell_gb b0 hg1
  have c1 := cell_gb b1 hg1
  have c2 := cell_gb b2 hg1
  have c3 := cell_gb b3 hg1
  have HG1 := hide hg1
  clear hg1
  go_wp2_with (go_at_call 96; (with_reducible refine (HZ.out w1 HG1.out).mono ?_); rintro e w2 ⟨rfl, hg2⟩; have HG2 := hide (gb_trans HG1.out hg2 (.inl rfl)); clear hg2)
  go_ret
  exact ⟨rfl, gb_trans HG.out HG2.out (.inl rfl)⟩
set_option maxHeartbeats 4000000 in
set_option maxRecDepth 100000 in
theorem formed_list (v : Vl) (w : World) (B : Nat) (nA : Option Addr) (nc : Nat) (sA : Option Addr) (sc : Nat) (lA : Option Addr) (lc : Nat) (htab : v.t = 0) (hu : unif v.l = false) (hz : v.l.any isNl = false) (ht : v.tot ≤ 1100000) (hB : B ≤ w.heap.size) (h : VB w B v nA nc sA sc lA lc) :
    Calls Try.prog 93 #[.agg #[.int .i64 v.t, .slice nA v.n.length nc, .slice sA v.s.length sc, .slice lA v.l.length lc]] w fun e w' => e = .returned (.bool true) ∧ w.grownBy w' none := by
  obtain ⟨l1, l2, l3, l4⟩ := Vl.lens v ht
  obtain ⟨wa, hwa⟩ : ∃ wa, wa = w.alloc (.cells #[.int .i64 v.t, .slice nA v.n.length nc, .slice sA v.s.length sc, .slice lA v.l.length lc] 26) := ⟨_, rfl⟩
  have hg : w.grownBy wa none := by rw [hwa]; exact gb_alloc (gb_refl w none) _
  have hc := C4.box w (.int .i64 v.t) (.slice nA v.n.length nc) (.slice sA v.s.length sc) (.slice lA v.l.length lc) 26
  rw [← hwa] at hc
  have b0 : wa.cell? ⟨w.heap.size, 0, none⟩ = some (.int .i64 v.t) := hc.c0
  have b1 : wa.cell? ⟨w.heap.size, 1, none⟩ = some (.slice nA v.n.length nc) := hc.c1
  have b2 : wa.cell? ⟨w.heap.size, 2, none⟩ = some (.slice sA v.s.length sc) := hc.c2
  have b3 : wa.cell? ⟨w.heap.size, 3, none⟩ = some (.slice lA v.l.length lc) := hc.c3
  have hbw := Nat.le_trans hB hg.size
  have HV := hide (h.gb hg hB)
  have HG := hide hg
  have HWE := hide hwa
  have HIA := hide (fun w2 => isAtom_any v.t (.slice nA v.n.length nc) (.slice sA v.s.length sc) (.slice lA v.l.length lc) w2)
  have hat : atomT v.t = false := by rw [htab]; rfl
  rw [hat] at HIA
  have HUN := hide (fun w2 (k : wa.grownBy w2 none) => unif_any v.l w2 B lA lc l4 (Nat.le_trans hbw k.size) ((h.gb hg hB).gb k hbw).l)
  have HNL := hide (fun w2 (k : wa.grownBy w2 none) => isNil_has v.l w2 B lA lc l3 (Nat.le_trans hbw k.size) ((h.gb hg hB).gb k hbw).l)
  rw [hu] at HUN
  rw [hz] at HNL
  have e_1 : (v.t == 1) = false := by rw [htab]; rfl
  have e_m1 : (v.t == -1) = false := by rw [htab]; rfl
  have e_3 : (v.t == 3) = false := by rw [htab]; rfl
  have e_m3 : (v.t == -3) = false := by rw [htab]; rfl
  have e_0 : (v.t == 0) = true := by rw [htab]; rfl
  have e_98 : (v.t == 98) = false := by rw [htab]; rfl
  have e_99 : (v.t == 99) = false := by rw [htab]; rfl
  have e_100 : (v.t == 100) = false := by rw [htab]; rfl
  clear ht hB h hg hwa hc hbw hat htab hu hz
  go_enter Try.func93, Try.ntmps93
  go_wp2_with fail
  rw [← HWE.out]
  refine (HIA.out wa).mono ?_
  rintro e w1 ⟨rfl, hg1⟩
  have c0 := cell_gb b0 hg1
  have c1 := cell_gb b1 hg1
  have c2 := cell_gb b2 hg1
  have c3 := cell_gb b3 hg1
  have HG1 := hide hg1
  clear hg1
  go_wp2_with (first
    | (go_at_call 69; (with_reducible refine (HUN.out w1 HG1.out).mono ?_); rintro e w2 ⟨rfl, hg2⟩; have f3 := cell_gb c3 hg2; have HG2 := hide (gb_trans HG1.out hg2 (.inl rfl)); clear hg2)
    | (go_at_call 76; (with_reducible refine (HNL.out w2 HG2.out).mono ?_); rintro e w3 ⟨rfl, hg3⟩; have HG3 := hide (gb_trans HG2.out hg3 (.inl rfl)); clear hg3))
  go_ret
  exact ⟨rfl, gb_trans HG.out HG3.out (.inl rfl)⟩
set_option maxHeartbeats 4000000 in
set_option maxRecDepth 100000 in
theorem formed_lam (v : Vl) (w : World) (B : Nat) (nA : Option Addr) (nc : Nat) (sA : Option Addr) (sc : Nat) (lA : Option Addr) (lc : Nat) (htab : v.t = 100) (x : ByteArray) (hl : v.s = [x]) (hxs : x.size ≤ 1100000) (m : Nat) (h2 : x.size = m + 1) (h1m : 1 ≤ m) (h3 : x[0] = 123) (h4 : x[m] = 125) (ht : v.tot ≤ 1100000) (hB : B ≤ w.heap.size) (h : VB w B v nA nc sA sc lA lc) :
    Calls Try.prog 93 #[.agg #[.int .i64 v.t, .slice nA v.n.length nc, .slice sA v.s.length sc, .slice lA v.l.length lc]] w fun e w' => e = .returned (.bool true) ∧ w.grownBy w' none := by
  obtain ⟨l1, l2, l3, l4⟩ := Vl.lens v ht
  obtain ⟨wa, hwa⟩ : ∃ wa, wa = w.alloc (.cells #[.int .i64 v.t, .slice nA v.n.length nc, .slice sA v.s.length sc, .slice lA v.l.length lc] 26) := ⟨_, rfl⟩
  have hg : w.grownBy wa none := by rw [hwa]; exact gb_alloc (gb_refl w none) _
  have hc := C4.box w (.int .i64 v.t) (.slice nA v.n.length nc) (.slice sA v.s.length sc) (.slice lA v.l.length lc) 26
  rw [← hwa] at hc
  have b0 : wa.cell? ⟨w.heap.size, 0, none⟩ = some (.int .i64 v.t) := hc.c0
  have b1 : wa.cell? ⟨w.heap.size, 1, none⟩ = some (.slice nA v.n.length nc) := hc.c1
  have b2 : wa.cell? ⟨w.heap.size, 2, none⟩ = some (.slice sA v.s.length sc) := hc.c2
  have b3 : wa.cell? ⟨w.heap.size, 3, none⟩ = some (.slice lA v.l.length lc) := hc.c3
  have hbw := Nat.le_trans hB hg.size
  have HV := hide (h.gb hg hB)
  have HG := hide hg
  have HWE := hide hwa
  have HIA := hide (fun w2 => isAtom_any v.t (.slice nA v.n.length nc) (.slice sA v.s.length sc) (.slice lA v.l.length lc) w2)
  have hat : atomT v.t = false := by rw [htab]; rfl
  rw [hat] at HIA
  have h1 : v.s.length = 1 := by rw [hl]; rfl
  have q1 : ((v.s.length : Int) == 1) = true := beq_iff_eq.2 (by omega)
  have hs0 : (0 : Int) < (v.s.length : Int) := by omega
  have hs00 : 0 < v.s.length := by omega
  have hRS := (h.gb hg hB).s
  rw [hl] at hRS
  obtain ⟨q, o, hsA, _, hlay⟩ := hRS.lay (by simp [strs])
  subst hsA
  have cx : wa.cell? ⟨q, o, none⟩ = some (.string x) := by simpa using hlay 0 (.string x) rfl
  have HCX := hide cx
  clear h1 hl hRS hlay cx
  have q2 : decide ((2 : Int) ≤ (x.size : Int)) = true := decide_eq_true (by omega)
  have q3 : (0 : Int) < (x.size : Int) := by omega
  have q4 : 0 < x.size := by omega
  have q7 : m < x.size := by omega
  have q5 : (((x[0]'q4).toNat : Int) == 123) = true := by rw [h3]; rfl
  have q6 : (((x[m]'q7).toNat : Int) == 125) = true := by rw [h4]; rfl
  have q8 : (m : Int) < (x.size : Int) := by omega
  have q9 : (x.size : Int) - 1 = (m : Int) := by omega
  have q11 : (0 : Int) ≤ (m : Int) := Int.natCast_nonneg m
  have q10a : (m : Int) ≤ 9223372036854775807 := by omega
  have q10 : wrap64 (m : Int) = (m : Int) := Go.IntWalk.wrap64_in _ (And.intro (by omega) q10a)
  clear h2 h3 h4 hxs q10a
  have e_1 : (v.t == 1) = false := by rw [htab]; rfl
  have e_m1 : (v.t == -1) = false := by rw [htab]; rfl
  have e_3 : (v.t == 3) = false := by rw [htab]; rfl
  have e_m3 : (v.t == -3) = false := by rw [htab]; rfl
  have e_0 : (v.t == 0) = false := by rw [htab]; rfl
  have e_98 : (v.t == 98) = false := by rw [htab]; rfl
  have e_99 : (v.t == 99) = false := by rw [htab]; rfl
  have e_100 : (v.t == 100) = true := by rw [htab]; rfl
  clear ht hB h hg hwa hc hbw hat htab h1m
  go_enter Try.func93, Try.ntmps93
  go_wp2_with fail
  rw [← HWE.out]
  refine (HIA.out wa).mono ?_
  rintro e w1 ⟨rfl, hg1⟩
  have c0 := cell_gb b0 hg1
  have c1 := cell_gb b1 hg1
  have c2 := cell_gb b2 hg1
  have c3 := cell_gb b3 hg1
  have HG1 := hide hg1
  clear hg1
  have cx := cell_gb HCX.out HG1.out
  go_wp2_with fail
  go_quiet (fail)
  go_wp2_with fail
  have HG2 := hide (gb_drewN HG1.out nq)
  go_ret
  exact ⟨rfl, gb_trans HG.out HG2.out (.inl rfl)⟩
end Go.Proofs.Ytfckmkpfhchggaa

/- What the document's Check calls good the program's Check calls good (for ValueBuilds). -/
namespace Go.Proofs.Ytfckmkpfhchggaa
open Go.RowKit

theorem zero_sym {s : ByteArray} (h : symS s = true) : hasZ s = false := by
  have key : ∀ l : List UInt8, (l.all fun c => c != 0) = true → Lib.indexByte l 0 = -1 := by
    intro l
    induction l with
    | nil => intro _; rfl
    | cons a r ih =>
      intro h
      rw [List.all_cons, Bool.and_eq_true] at h
      unfold Lib.indexByte
      have h1 := h.1
      rw [if_neg (by simpa using h1), if_pos (by rw [ih h.2]; rfl)]
  unfold symS at h
  unfold hasZ
  rw [key _ h]
  rfl
theorem zeros_sym {l : List ByteArray} (h : l.all symS = true) : l.any hasZ = false := by
  rw [List.any_eq_false]
  intro x hx
  rw [zero_sym (List.all_eq_true.1 h x hx)]
  simp
theorem bits_nb {l : List Int} (h : bitsV l = true) : l.any nb = false := by
  rw [List.any_eq_false]
  intro x hx
  have h2 := List.all_eq_true.1 h x hx
  simp only [Bool.or_eq_true, decide_eq_true_eq] at h2
  rcases h2 with h2 | h2 <;> rw [h2] <;> decide
theorem atom_same (t : Int) : atomT t = rAtom t := by
  by_cases h : t < 0
  · by_cases h2 : -5 ≤ t
    · have : t = -1 ∨ t = -2 ∨ t = -3 ∨ t = -4 ∨ t = -5 := by omega
      rcases this with rfl | rfl | rfl | rfl | rfl <;> rfl
    · have e : ∀ k : Int, -5 ≤ k → (t == k) = false := fun k hk => by rw [beq_eq_false_iff_ne]; omega
      have e2 : atomT t = false := by
        unfold atomT hasN hasS
        rw [e 1 (by decide), e 2 (by decide), e 4 (by decide), e 5 (by decide), e (-1) (by decide), e (-2) (by decide), e (-4) (by decide), e (-5) (by decide), e 3 (by decide), e (-3) (by decide)]
        simp
      rw [e2]
      unfold rAtom
      simp [h2]
  · unfold atomT rAtom
    simp [h]
theorem unif_list {l : List Vl} (h : alikeV l (headT l) l.length = false) : unif l = false := by
  cases l with
  | nil => rfl
  | cons a r =>
    rw [Bool.eq_false_iff] at h ⊢
    intro hu
    apply h
    unfold unif at hu
    rw [Bool.and_eq_true] at hu
    unfold alikeV
    rw [List.take_length, Bool.and_eq_true]
    refine ⟨by simp, List.all_eq_true.2 fun x hx => ?_⟩
    have hxt : x.t = a.t := by
      rcases List.mem_cons.1 hx with rfl | hx
      · rfl
      · exact eq_of_beq (List.all_eq_true.1 hu.2 x hx)
    rw [hxt, ← atom_same, hu.1]
    simp [headT]
theorem nil_list {l : List Vl} (h : noNil l = true) : l.any isNl = false := by
  rw [List.any_eq_false]
  intro x hx
  have h2 := of_decide_eq_true (List.all_eq_true.1 h x hx)
  unfold isNl
  simpa using h2
theorem seq_col {v : Vl} (h : rCol v.t = true) : isSeq v = true := by
  unfold rCol rVec at h
  have h2 : v.t = 0 ∨ v.t = 1 ∨ v.t = 2 ∨ v.t = 3 ∨ v.t = 4 ∨ v.t = 5 := by
    simp at h
    omega
  unfold isSeq
  rcases h2 with e | e | e | e | e | e <;> rw [e] <;> rfl
theorem tab_parts {v : Vl} (h : tabV v = true) : nmOk v.s = true ∧ v.l.length = v.s.length ∧ v.l.all isSeq = true := by
  unfold tabV at h
  rw [Bool.and_eq_true, Bool.and_eq_true] at h
  obtain ⟨⟨h1, h2⟩, h3⟩ := h
  have h1 := of_decide_eq_true h1
  have h2 := of_decide_eq_true h2
  have key : ∀ i (hi : i < v.s.length), badT v i = false := fun i hi => by
    have := List.all_eq_true.1 h3 i (List.mem_range.2 hi)
    simpa using this
  have part : ∀ i (hi : i < v.s.length), v.s[i].toList.isEmpty = false ∧ symS v.s[i] = true ∧ rCol (v.l[i]'(by omega)).t = true ∧ inS (v.s.take i) v.s[i] = false := fun i hi => by
    have k := key i hi
    unfold badT at k
    have e1 : v.s.getD i ⟨#[]⟩ = v.s[i] := by simp [List.getD_eq_getElem?_getD, hi]
    have hi2 : i < v.l.length := by omega
    have e2 : v.l.getD i (.mk 0 [] [] []) = v.l[i] := by simp [List.getD_eq_getElem?_getD, hi2]
    rw [e1, e2] at k
    simp only [Bool.or_eq_false_iff, Bool.not_eq_false'] at k
    exact ⟨k.1.1.1, k.1.1.2, k.1.2, k.2⟩
  refine ⟨?_, h2.symm, List.all_eq_true.2 fun x hx => ?_⟩
  · unfold nmOk
    rw [Bool.and_eq_true]
    refine ⟨?_, decide_eq_true h1⟩
    unfold nmGood
    refine List.all_eq_true.2 fun i hi => ?_
    have hi := List.mem_range.1 hi
    rw [List.getElem?_eq_getElem hi]
    obtain ⟨a, b, c, d⟩ := part i hi
    unfold badName
    simp only
    rw [a, zero_sym b, d]
    rfl
  · obtain ⟨i, hi, rfl⟩ := List.getElem_of_mem hx
    exact seq_col (part i (by omega)).2.2.1
theorem dic_parts {v : Vl} (h : dicV v = true) : v.l.length = 2 ∧ (v.l.all isSeq = true ∨ (v.l.all isSeq = false ∧ v.l.all isTab = true)) := by
  unfold dicV at h
  match hl : v.l, h with
  | [], h => cases h
  | [a], h => cases h
  | [a, b], h =>
    refine ⟨rfl, ?_⟩
    simp only [Bool.or_eq_true, Bool.and_eq_true, decide_eq_true_eq] at h
    rcases h with ⟨h1, h2⟩ | ⟨h1, h2⟩
    · left
      simp only [List.all_cons, List.all_nil, Bool.and_true]
      rw [seq_col h1, seq_col h2]
      rfl
    · right
      simp only [List.all_cons, List.all_nil, Bool.and_true]
      constructor
      · unfold isSeq
        rw [h1, h2]
        rfl
      · unfold isTab
        rw [h1, h2]
        rfl
  | a :: b :: c :: r, h => cases h
theorem lam_parts {v : Vl} (h : lamV v = true) : ∃ (x : ByteArray) (m : Nat) (h2 : x.size = m + 1), v.s = [x] ∧ 1 ≤ m ∧ x[0] = 123 ∧ x[m] = 125 := by
  unfold lamV at h
  match hs : v.s, h with
  | [], h => cases h
  | [x], h =>
    simp only at h
    unfold lamS at h
    by_cases h2 : 2 ≤ x.size
    · rw [dif_pos h2] at h
      simp only [Bool.and_eq_true, decide_eq_true_eq] at h
      refine ⟨x, x.size - 1, by omega, rfl, by omega, h.1, h.2⟩
    · rw [dif_neg h2] at h
      cases h
  | a :: b :: r, h => cases h
theorem named_ok {v : Vl} (h : fieldsOk v = true) : named v = true := by
  have ht := ok_types h
  unfold fieldsOk at h
  simp only [typesL, List.mem_cons, List.not_mem_nil, or_false] at ht
  unfold named hasN hasS
  rcases ht with e | e | e | e | e | e | e | e | e | e | e | e | e | e | e <;> rw [e] at h ⊢ <;> simp [fieldsT, rAbs] at h ⊢ <;> simp [h]
theorem level_even {v : Vl} (h : evenV v = true) : levelV v = true := by
  unfold levelV
  by_cases ht : v.t = 98 ∨ v.t = 99
  · rw [if_pos ht]
    unfold evenV at h
    have h0 : decide (v.t = 0) = false := decide_eq_false (by omega)
    rw [h0, Bool.false_or] at h
    have hc : v.count = Vl.countH v.l := by
      rw [Vl.count_def, if_neg (by omega), if_neg (by omega), if_neg (by omega), if_pos ht]
    refine List.all_eq_true.2 fun x hx => ?_
    have := of_decide_eq_true (List.all_eq_true.1 h x hx)
    unfold lvl
    rw [hc, this]
    simp
  · rw [if_neg ht]
theorem own_parts {v : Vl} (h : ownV v = 0) : fieldsOk v = true ∧ manyV v = false ∧ tooLongV v = false ∧ plainV v = true ∧ evenV v = true := by
  unfold ownV at h
  by_cases h1 : fieldsOk v = false
  · rw [if_pos h1] at h; cases h
  rw [if_neg h1] at h
  by_cases h2 : manyV v = true
  · rw [if_pos h2] at h; cases h
  rw [if_neg h2] at h
  by_cases h3 : tooLongV v = true
  · rw [if_pos h3] at h; cases h
  rw [if_neg h3] at h
  by_cases h4 : plainV v = false
  · rw [if_pos h4] at h; cases h
  rw [if_neg h4] at h
  by_cases h5 : evenV v = false
  · rw [if_pos h5] at h; cases h
  exact ⟨by simpa using h1, by simpa using h2, by simpa using h3, by simpa using h4, by simpa using h5⟩
theorem formed_yes {v : Vl} (hf : fieldsOk v = true) (hp : plainV v = true) (ht : v.tot ≤ 1100000) (hsz : ∀ s ∈ v.s, s.size ≤ 1100000) : FormedYes v := by
  have htl := ok_types hf
  simp only [typesL, List.mem_cons, List.not_mem_nil, or_false] at htl
  intro w B nA nc sA sc lA lc hB h
  unfold plainV at hp
  by_cases ha : rAtom v.t = true ∧ v.n.length + v.s.length ≠ 1
  · rw [if_pos ha] at hp; cases hp
  rw [if_neg ha] at hp
  have hone : rAtom v.t = true → v.n.length + v.s.length = 1 := fun hr => Classical.byContradiction fun hne => ha ⟨hr, hne⟩
  clear ha
  by_cases e0 : v.t = 0
  · rw [if_pos e0] at hp
    unfold listV at hp
    rw [Bool.and_eq_true] at hp
    exact formed_list v w B nA nc sA sc lA lc e0 (unif_list (by simpa using hp.2)) (nil_list hp.1) ht hB h
  rw [if_neg e0] at hp
  by_cases e98 : v.t = 98
  · rw [if_pos e98] at hp
    obtain ⟨a, b, c⟩ := tab_parts hp
    exact formed_tab v w B nA nc sA sc lA lc e98 a b c ht hB h
  rw [if_neg e98] at hp
  by_cases e99 : v.t = 99
  · rw [if_pos e99] at hp
    obtain ⟨a, b | ⟨b, c⟩⟩ := dic_parts hp
    · exact formed_dict_seq v w B nA nc sA sc lA lc e99 a b ht hB h
    · exact formed_dict_tab v w B nA nc sA sc lA lc e99 a b c ht hB h
  rw [if_neg e99] at hp
  by_cases e100 : v.t = 100
  · rw [if_pos e100] at hp
    obtain ⟨x, m, h2, hl, h1m, h3, h4⟩ := lam_parts hp
    exact formed_lam v w B nA nc sA sc lA lc e100 x hl (hsz x (by rw [hl]; simp)) m h2 h1m h3 h4 ht hB h
  rw [if_neg e100] at hp
  rcases htl with e | e | e | e | e | e | e | e | e | e | e | e | e | e | e
  · exact absurd e e0
  · exact absurd e e98
  · exact absurd e e99
  · exact absurd e e100
  · exact formed_oth v w B nA nc sA sc lA lc (by rw [e]; rfl) (by omega) (by omega) (by omega) (by omega) (by omega) (by omega) (by omega) (by omega) ht hB h
  · rw [if_pos (show rAbs v.t = 1 by rw [e]; rfl)] at hp
    exact formed_bool v w B nA nc sA sc lA lc e (bits_nb hp) ht hB h
  · exact formed_oth v w B nA nc sA sc lA lc (by rw [e]; rfl) (by omega) (by omega) (by omega) (by omega) (by omega) (by omega) (by omega) (by omega) ht hB h
  · rw [if_neg (show ¬ rAbs v.t = 1 by rw [e]; decide), if_pos (show rAbs v.t = 3 by rw [e]; rfl)] at hp
    exact formed_sym v w B nA nc sA sc lA lc e (zeros_sym hp) ht hB h
  · exact formed_oth v w B nA nc sA sc lA lc (by rw [e]; rfl) (by omega) (by omega) (by omega) (by omega) (by omega) (by omega) (by omega) (by omega) ht hB h
  · exact formed_oth v w B nA nc sA sc lA lc (by rw [e]; rfl) (by omega) (by omega) (by omega) (by omega) (by omega) (by omega) (by omega) (by omega) ht hB h
  · rw [if_pos (show rAbs v.t = 1 by rw [e]; rfl)] at hp
    exact formed_batm v w B nA nc sA sc lA lc e (hone (by rw [e]; rfl)) (bits_nb hp) ht hB h
  · exact formed_atm v w B nA nc sA sc lA lc (by rw [e]; rfl) (hone (by rw [e]; rfl)) (by omega) (by omega) (by omega) (by omega) (by omega) (by omega) (by omega) (by omega) ht hB h
  · rw [if_neg (show ¬ rAbs v.t = 1 by rw [e]; decide), if_pos (show rAbs v.t = 3 by rw [e]; rfl)] at hp
    exact formed_satm v w B nA nc sA sc lA lc e (hone (by rw [e]; rfl)) (zeros_sym hp) ht hB h
  · exact formed_atm v w B nA nc sA sc lA lc (by rw [e]; rfl) (hone (by rw [e]; rfl)) (by omega) (by omega) (by omega) (by omega) (by omega) (by omega) (by omega) (by omega) ht hB h
  · exact formed_atm v w B nA nc sA sc lA lc (by rw [e]; rfl) (hone (by rw [e]; rfl)) (by omega) (by omega) (by omega) (by omega) (by omega) (by omega) (by omega) (by omega) ht hB h
theorem good_of (d : Nat) : ∀ (e : Nat) (v : Vl), v.depth ≤ d → d ≤ e → v.tot ≤ 1100000 → (∀ x : Vl, x.tot ≤ 1100000 → ∀ s ∈ x.s, s.size ≤ 1100000) → partsV e v = 0 → GoodV d v := by
  induction d with
  | zero => intro e v h; rw [Vl.depth_def] at h; omega
  | succ d ih =>
    intro e v hd he ht hs h
    obtain ⟨e, rfl⟩ : ∃ k, e = k + 1 := ⟨e - 1, by omega⟩
    by_cases ho : ownV v = 0
    · rw [partsV_succ ho] at h
      obtain ⟨h1, h2, h3, h4, h5⟩ := own_parts ho
      exact ⟨named_ok h1, h2, h3, formed_yes h1 h4 ht (hs v ht), level_even h5, fun x hx => ih e x (Vl.depth_part hd hx) (by omega) (Vl.tot_part ht hx) hs (firstE_all h x hx)⟩
    · rw [partsV_own ho] at h
      exact absurd h ho
theorem check_parts {v : Vl} (h : checkV v = 0) : faultsV v = 0 ∧ v.depth ≤ 32 := by
  unfold checkV at h
  by_cases hf : faultsV v = 0
  · rw [if_pos hf] at h
    by_cases hd : 32 < v.depth
    · rw [if_pos hd] at h; cases h
    · exact ⟨hf, by omega⟩
  · rw [if_neg hf] at h
    exact absurd h hf
/-- What the document's Check calls good, the program's Check calls good. -/
theorem vCheck_good (v : Vl) (w : World) (B : Nat) (nA : Option Addr) (nc : Nat) (sA : Option Addr) (sc : Nat) (lA : Option Addr) (lc : Nat) (hk : checkV v = 0) (ht : v.tot ≤ 1100000) (hB : B ≤ w.heap.size) (h : VB w B v nA nc sA sc lA lc) :
    Calls Try.prog 33 #[.agg #[.int .i64 v.t, .slice nA v.n.length nc, .slice sA v.s.length sc, .slice lA v.l.length lc]] w fun e w' => e = .returned (.int .i64 0) ∧ w.grownBy w' none :=
  check_good 32 v w B nA nc sA sc lA lc (good_of 32 1048576 v (check_parts hk).2 (by omega) ht (fun _ hx => size_le_tot hx) (check_parts hk).1) (check_parts hk).2 ht hB h
end Go.Proofs.Ytfckmkpfhchggaa
