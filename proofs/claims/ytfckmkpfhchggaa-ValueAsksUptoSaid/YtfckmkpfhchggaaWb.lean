/-
  What is well formed (vectors of numbers, of symbols; tables).
-/
import Derived.Test.YtfckmkpfhchggaaVy

namespace Go.Proofs.Ytfckmkpfhchggaa
open Go.RowKit
attribute [local go_sem ↓] Go.wp_at_zero Go.wp_at_succ

/-- Is the name at a place no good? -/
def badName (s : List ByteArray) (i : Nat) (x : ByteArray) : Bool := x.toList.isEmpty || hasZ x || inS (s.take i) x
/-- Are the first j names good? -/
def nmGood (s : List ByteArray) (j : Nat) : Bool := (List.range j).all fun i => match s[i]? with | some x => !badName s i x | none => true
def nmOk (s : List ByteArray) : Bool := nmGood s s.length && decide (0 < s.length)
theorem nmGood_succ {s : List ByteArray} {j : Nat} (h : j < s.length) : nmGood s (j + 1) = (nmGood s j && !badName s j s[j]) := by
  unfold nmGood
  rw [List.range_succ, List.all_append]
  simp [h]
theorem nmGood_mono {s : List ByteArray} {j k : Nat} (h : j ≤ k) (hk : nmGood s k = true) : nmGood s j = true := by
  unfold nmGood at *
  rw [List.all_eq_true] at *
  exact fun x hx => hk x (List.mem_range.2 (by have := List.mem_range.1 hx; omega))

set_option maxHeartbeats 8000000 in
set_option maxRecDepth 100000 in
theorem names_any (s : List ByteArray) (w : World) (B : Nat) (A : Option Addr) (c : Nat) (hl : s.length ≤ 1100000) (hc : s.length ≤ c) (hB : B ≤ w.heap.size) (h : Rd w B A (strs s)) :
    Calls Try.prog 102 #[.slice A s.length c] w fun e w' => e = .returned (.bool (nmOk s)) ∧ w.grownBy w' none := by
  have H := hide h
  have HB := hide hB
  have hcc : (s.length : Int) ≤ (c : Int) := by omega
  clear h hB
  go_enter Try.func102, Try.ntmps102
  go_wp2_with fail
  go_loopw [7] (fun i wr => ∃ j : Nat, i = .int .i64 (j : Int) ∧ j ≤ s.length ∧ Hid (nmGood s j = true) ∧ w.grownBy wr none) (fun i _ => s.length - (intOf i).toNat)
  case atStart => exact ⟨0, rfl, Nat.zero_le _, hide rfl, gb_refl w none⟩
  case round =>
    obtain ⟨j, rfl, hj, HE, hgr⟩ := hrel
    have HGR := hide hgr
    by_cases hlt : j < s.length
    · have hlt1 : (j : Int) < (s.length : Int) := by omega
      obtain ⟨a, rfl, _, ca⟩ := H.out.str hlt
      have ca := cell_gb ca hgr
      have HG := hide (nmGood_succ hlt)
      have HBAD : Hid (badName s j s[j] = true → nmOk s = false) := hide (fun hb => by
        unfold nmOk
        cases hk : nmGood s s.length
        · rfl
        · have := nmGood_mono (show j + 1 ≤ s.length by omega) hk
          rw [HG.out, hb] at this
          simp at this)
      have HBN := hide (show badName s j s[j] = (s[j].toList.isEmpty || hasZ s[j] || inS (s.take j) s[j]) from rfl)
      have HZ := hide (fun w2 => hasZ_any s[j] w2)
      have HTL := hide (show (s.take j).length = j by rw [List.length_take]; omega)
      have HMEM := hide (fun w2 (k : w.grownBy w2 none) => memS_any (s.take j) s[j] w2 B (some a) c (by rw [List.length_take]; omega) (by
        have := (H.out.take j).grown k HB.out (by simp)
        simpa [strs] using this))
      rw [HTL.out] at HMEM
      have hj0 : (0 : Int) ≤ (j : Int) := by omega
      have hjc : (j : Int) ≤ (c : Int) := by omega
      clear hgr
      generalize hxe : s[j] = x at *
      clear hxe
      cases he : x.toList.isEmpty
      · have he2 : (x.toList == []) = false := by
          cases hxl : x.toList
          · rw [hxl] at he; cases he
          · rfl
        cases hz : hasZ x
        · rw [hz] at HZ
          cases hm : inS (s.take j) x
          · have HGO := hide (show nmGood s (j + 1) = true by rw [HG.out, HE.out, HBN.out, he, hz, hm]; rfl)
            rw [hm] at HMEM
            clear hz hm HBN HG HBAD
            go_wp2_with (first
              | (go_at_call 100; refine (HZ.out _).mono ?_; rintro e w1 ⟨rfl, hg1⟩; have HG1 := hide (gb_trans HGR.out hg1 (.inl rfl)); clear hg1)
              | (go_at_call 107; refine (HMEM.out _ HG1.out).mono ?_; rintro e w2 ⟨rfl, hg2⟩; have HG2 := hide (gb_trans HG1.out hg2 (.inl rfl)); clear hg2))
            go_roundw
            case rel => exact ⟨j + 1, by go_num, by omega, HGO, HG2.out⟩
            case measure => simp [intOf]; omega
          · have HNO := hide (HBAD.out (by rw [HBN.out, he, hz, hm]; rfl))
            rw [hm] at HMEM
            clear hz hm HBN HG HBAD
            go_wp2_with (first
              | (go_at_call 100; refine (HZ.out _).mono ?_; rintro e w1 ⟨rfl, hg1⟩; have HG1 := hide (gb_trans HGR.out hg1 (.inl rfl)); clear hg1)
              | (go_at_call 107; refine (HMEM.out _ HG1.out).mono ?_; rintro e w2 ⟨rfl, hg2⟩; have HG2 := hide (gb_trans HG1.out hg2 (.inl rfl)); clear hg2))
            go_ret
            exact ⟨ret_b HNO.out.symm, HG2.out⟩
        · rw [hz] at HZ
          have HNO := hide (HBAD.out (by rw [HBN.out, he, hz]; rfl))
          clear hz HBN HG HBAD
          go_wp2_with (first
            | (go_at_call 100; refine (HZ.out _).mono ?_; rintro e w1 ⟨rfl, hg1⟩; have HG1 := hide (gb_trans HGR.out hg1 (.inl rfl)); clear hg1))
          go_ret
          exact ⟨ret_b HNO.out.symm, HG1.out⟩
      · have HNO := hide (HBAD.out (by rw [HBN.out, he]; rfl))
        clear HBN HG HBAD
        go_wp2_with fail
        go_ret
        exact ⟨ret_b HNO.out.symm, HGR.out⟩
    · have hlt1 : ¬ (j : Int) < (s.length : Int) := by omega
      obtain rfl : j = s.length := by omega
      have HR : Hid (decide ((0 : Int) < (s.length : Int)) = nmOk s) := hide (by unfold nmOk; rw [HE.out, Bool.true_and, decide_eq_decide]; omega)
      clear hgr
      go_wp2_with fail
      go_ret
      exact ⟨ret_b (by first | exact HR.out | (rw [← HR.out]; simp)), HGR.out⟩
end Go.Proofs.Ytfckmkpfhchggaa

/- formed; the first error; Check. -/
namespace Go.Proofs.Ytfckmkpfhchggaa
open Go.RowKit
attribute [local go_sem ↓] Go.wp_at_zero Go.wp_at_succ

set_option maxHeartbeats 8000000 in
set_option maxRecDepth 100000 in
theorem formed_int (v : Vl) (w : World) (B : Nat) (nA : Option Addr) (nc : Nat) (sA : Option Addr) (sc : Nat) (lA : Option Addr) (lc : Nat) (htab : v.t = 2) (ht : v.tot ≤ 1100000) (hB : B ≤ w.heap.size) (h : VB w B v nA nc sA sc lA lc) :
    Calls Try.prog 93 #[.agg #[.int .i64 v.t, .slice nA v.n.length nc, .slice sA v.s.length sc, .slice lA v.l.length lc]] w fun e w' => e = .returned (.bool true) ∧ w.grownBy w' none := by
  obtain ⟨l1, l2, l3, l4⟩ := Vl.lens v ht
  obtain ⟨wa, hwa⟩ : ∃ wa, wa = w.alloc (.cells #[.int .i64 v.t, .slice nA v.n.length nc, .slice sA v.s.length sc, .slice lA v.l.length lc] 26) := ⟨_, rfl⟩
  have hg : w.grownBy wa none := by rw [hwa]; exact gb_alloc (gb_refl w none) _
  have hc := C4.box w (.int .i64 v.t) (.slice nA v.n.length nc) (.slice sA v.s.length sc) (.slice lA v.l.length lc) 26
  rw [← hwa] at hc
  have b0 : wa.cell? ⟨w.heap.size, 0, none⟩ = some (.int .i64 v.t) := hc.c0
  have b1 : wa.cell? ⟨w.heap.size, 1, none⟩ = some (.slice nA v.n.length nc) := hc.c1
  have b2 : wa.cell? ⟨w.heap.size, 2, none⟩ = some (.slice sA v.s.length sc) := hc.c2
  have b3 : wa.cell? ⟨w.heap.size, 3, none⟩ = some (.slice lA v.l.length lc) := hc.c3
  have hbw := Nat.le_trans hB hg.size
  have HV := hide (h.gb hg hB)
  have HBW := hide hbw
  have HG := hide hg
  have HWE := hide hwa
  have FIN := hide (show w.grownBy (w.alloc (.cells #[.int .i64 v.t, .slice nA v.n.length nc, .slice sA v.s.length sc, .slice lA v.l.length lc] 26)) none from gb_alloc (gb_refl w none) _)
  have HIA := hide (fun w2 => isAtom_any v.t (.slice nA v.n.length nc) (.slice sA v.s.length sc) (.slice lA v.l.length lc) w2)
  have hat : atomT v.t = false := by rw [htab]; rfl
  rw [hat] at HIA
  have e_1 : (v.t == 1) = false := by rw [htab]; rfl
  have e_m1 : (v.t == -1) = false := by rw [htab]; rfl
  have e_3 : (v.t == 3) = false := by rw [htab]; rfl
  have e_m3 : (v.t == -3) = false := by rw [htab]; rfl
  have e_0 : (v.t == 0) = false := by rw [htab]; rfl
  have e_98 : (v.t == 98) = false := by rw [htab]; rfl
  have e_99 : (v.t == 99) = false := by rw [htab]; rfl
  have e_100 : (v.t == 100) = false := by rw [htab]; rfl
  clear ht hB h hg hwa hc hbw htab hat
  go_enter Try.func93, Try.ntmps93
  go_wp2_with fail
  rw [← HWE.out]
  refine (HIA.out wa).mono ?_
  rintro e w1 ⟨rfl, hg1⟩
  have c0 := cell_gb b0 hg1
  have HG1 := hide hg1
  clear hg1
  go_wp2_with fail
  go_ret
  exact ⟨rfl, gb_trans HG.out HG1.out (.inl rfl)⟩
set_option maxHeartbeats 8000000 in
set_option maxRecDepth 100000 in
theorem formed_sym (v : Vl) (w : World) (B : Nat) (nA : Option Addr) (nc : Nat) (sA : Option Addr) (sc : Nat) (lA : Option Addr) (lc : Nat) (htab : v.t = 3) (hz : v.s.any hasZ = false) (ht : v.tot ≤ 1100000) (hB : B ≤ w.heap.size) (h : VB w B v nA nc sA sc lA lc) :
    Calls Try.prog 93 #[.agg #[.int .i64 v.t, .slice nA v.n.length nc, .slice sA v.s.length sc, .slice lA v.l.length lc]] w fun e w' => e = .returned (.bool true) ∧ w.grownBy w' none := by
  obtain ⟨l1, l2, l3, l4⟩ := Vl.lens v ht
  obtain ⟨wa, hwa⟩ : ∃ wa, wa = w.alloc (.cells #[.int .i64 v.t, .slice nA v.n.length nc, .slice sA v.s.length sc, .slice lA v.l.length lc] 26) := ⟨_, rfl⟩
  have hg : w.grownBy wa none := by rw [hwa]; exact gb_alloc (gb_refl w none) _
  have hc := C4.box w (.int .i64 v.t) (.slice nA v.n.length nc) (.slice sA v.s.length sc) (.slice lA v.l.length lc) 26
  rw [← hwa] at hc
  have b0 : wa.cell? ⟨w.heap.size, 0, none⟩ = some (.int .i64 v.t) := hc.c0
  have b1 : wa.cell? ⟨w.heap.size, 1, none⟩ = some (.slice nA v.n.length nc) := hc.c1
  have b2 : wa.cell? ⟨w.heap.size, 2, none⟩ = some (.slice sA v.s.length sc) := hc.c2
  have b3 : wa.cell? ⟨w.heap.size, 3, none⟩ = some (.slice lA v.l.length lc) := hc.c3
  have hbw := Nat.le_trans hB hg.size
  have HV := hide (h.gb hg hB)
  have HBW := hide hbw
  have HG := hide hg
  have HWE := hide hwa
  have FIN := hide (show w.grownBy (w.alloc (.cells #[.int .i64 v.t, .slice nA v.n.length nc, .slice sA v.s.length sc, .slice lA v.l.length lc] 26)) none from gb_alloc (gb_refl w none) _)
  have HIA := hide (fun w2 => isAtom_any v.t (.slice nA v.n.length nc) (.slice sA v.s.length sc) (.slice lA v.l.length lc) w2)
  have hat : atomT v.t = false := by rw [htab]; rfl
  rw [hat] at HIA
  have HZ := hide (fun w2 (k : wa.grownBy w2 none) => hasZ_has v.s w2 B sA sc l2 (Nat.le_trans hbw k.size) ((h.gb hg hB).gb k hbw).s)
  rw [hz] at HZ
  have e_1 : (v.t == 1) = false := by rw [htab]; rfl
  have e_m1 : (v.t == -1) = false := by rw [htab]; rfl
  have e_3 : (v.t == 3) = true := by rw [htab]; rfl
  have e_m3 : (v.t == -3) = false := by rw [htab]; rfl
  have e_0 : (v.t == 0) = false := by rw [htab]; rfl
  have e_98 : (v.t == 98) = false := by rw [htab]; rfl
  have e_99 : (v.t == 99) = false := by rw [htab]; rfl
  have e_100 : (v.t == 100) = false := by rw [htab]; rfl
  clear ht hB h hg hwa hc hbw htab hat hz
  go_enter Try.func93, Try.ntmps93
  go_wp2_with fail
  rw [← HWE.out]
  refine (HIA.out wa).mono ?_
  rintro e w1 ⟨rfl, hg1⟩
  have c0 := cell_gb b0 hg1
  have c2 := cell_gb b2 hg1
  have HG1 := hide hg1
  clear hg1
  go_wp2_with (go_at_call 96; refine (HZ.out w1 HG1.out).mono ?_; rintro e w2 ⟨rfl, hg2⟩; have HG2 := hide hg2; clear hg2)
  go_ret
  exact ⟨rfl, gb_trans HG.out (gb_trans HG1.out HG2.out (.inl rfl)) (.inl rfl)⟩
set_option maxHeartbeats 8000000 in
set_option maxRecDepth 100000 in
theorem formed_tab (v : Vl) (w : World) (B : Nat) (nA : Option Addr) (nc : Nat) (sA : Option Addr) (sc : Nat) (lA : Option Addr) (lc : Nat) (htab : v.t = 98) (hnm : nmOk v.s = true) (hls : v.l.length = v.s.length) (hsq : v.l.all isSeq = true) (ht : v.tot ≤ 1100000) (hB : B ≤ w.heap.size) (h : VB w B v nA nc sA sc lA lc) :
    Calls Try.prog 93 #[.agg #[.int .i64 v.t, .slice nA v.n.length nc, .slice sA v.s.length sc, .slice lA v.l.length lc]] w fun e w' => e = .returned (.bool true) ∧ w.grownBy w' none := by
  obtain ⟨l1, l2, l3, l4⟩ := Vl.lens v ht
  obtain ⟨wa, hwa⟩ : ∃ wa, wa = w.alloc (.cells #[.int .i64 v.t, .slice nA v.n.length nc, .slice sA v.s.length sc, .slice lA v.l.length lc] 26) := ⟨_, rfl⟩
  have hg : w.grownBy wa none := by rw [hwa]; exact gb_alloc (gb_refl w none) _
  have hc := C4.box w (.int .i64 v.t) (.slice nA v.n.length nc) (.slice sA v.s.length sc) (.slice lA v.l.length lc) 26
  rw [← hwa] at hc
  have b0 : wa.cell? ⟨w.heap.size, 0, none⟩ = some (.int .i64 v.t) := hc.c0
  have b1 : wa.cell? ⟨w.heap.size, 1, none⟩ = some (.slice nA v.n.length nc) := hc.c1
  have b2 : wa.cell? ⟨w.heap.size, 2, none⟩ = some (.slice sA v.s.length sc) := hc.c2
  have b3 : wa.cell? ⟨w.heap.size, 3, none⟩ = some (.slice lA v.l.length lc) := hc.c3
  have hbw := Nat.le_trans hB hg.size
  have HV := hide (h.gb hg hB)
  have HBW := hide hbw
  have HG := hide hg
  have HWE := hide hwa
  have FIN := hide (show w.grownBy (w.alloc (.cells #[.int .i64 v.t, .slice nA v.n.length nc, .slice sA v.s.length sc, .slice lA v.l.length lc] 26)) none from gb_alloc (gb_refl w none) _)
  have HIA := hide (fun w2 => isAtom_any v.t (.slice nA v.n.length nc) (.slice sA v.s.length sc) (.slice lA v.l.length lc) w2)
  have hat : atomT v.t = false := by rw [htab]; rfl
  rw [hat] at HIA
  have HNM := hide (fun w2 (k : wa.grownBy w2 none) => names_any v.s w2 B sA sc l2 h.hs (Nat.le_trans hbw k.size) ((h.gb hg hB).gb k hbw).s)
  have HSQ := hide (fun w2 (k : wa.grownBy w2 none) => isSeq_all v.l w2 B lA lc l3 (Nat.le_trans hbw k.size) ((h.gb hg hB).gb k hbw).l)
  rw [hnm] at HNM
  rw [hsq] at HSQ
  have els : ((v.l.length : Int) == (v.s.length : Int)) = true := beq_iff_eq.2 (by omega)
  have e_1 : (v.t == 1) = false := by rw [htab]; rfl
  have e_m1 : (v.t == -1) = false := by rw [htab]; rfl
  have e_3 : (v.t == 3) = false := by rw [htab]; rfl
  have e_m3 : (v.t == -3) = false := by rw [htab]; rfl
  have e_0 : (v.t == 0) = false := by rw [htab]; rfl
  have e_98 : (v.t == 98) = true := by rw [htab]; rfl
  have e_99 : (v.t == 99) = false := by rw [htab]; rfl
  have e_100 : (v.t == 100) = false := by rw [htab]; rfl
  clear ht hB h hg hwa hc hbw htab hat hnm hls hsq
  go_enter Try.func93, Try.ntmps93
  go_wp2_with fail
  rw [← HWE.out]
  refine (HIA.out wa).mono ?_
  rintro e w1 ⟨rfl, hg1⟩
  have c0 := cell_gb b0 hg1
  have c2 := cell_gb b2 hg1
  have c3 := cell_gb b3 hg1
  have HG1 := hide hg1
  clear hg1
  go_wp2_with (first
    | (go_at_call 102; refine (HNM.out w1 HG1.out).mono ?_; rintro e w2 ⟨rfl, hg2⟩; have f2 := cell_gb c2 hg2; have f3 := cell_gb c3 hg2; have HG2 := hide (gb_trans HG1.out hg2 (.inl rfl)); clear hg2)
    | (go_at_call 46; refine (HSQ.out w2 HG2.out).mono ?_; rintro e w3 ⟨rfl, hg3⟩; have HG3 := hide (gb_trans HG2.out hg3 (.inl rfl)); clear hg3))
  go_ret
  exact ⟨rfl, gb_trans HG.out HG3.out (.inl rfl)⟩

/-- formed says yes. -/
def FormedYes (v : Vl) : Prop := ∀ (w : World) (B : Nat) (nA : Option Addr) (nc : Nat) (sA : Option Addr) (sc : Nat) (lA : Option Addr) (lc : Nat), B ≤ w.heap.size → VB w B v nA nc sA sc lA lc →
    Calls Try.prog 93 #[.agg #[.int .i64 v.t, .slice nA v.n.length nc, .slice sA v.s.length sc, .slice lA v.l.length lc]] w fun e w' => e = .returned (.bool true) ∧ w.grownBy w' none
set_option maxHeartbeats 8000000 in
set_option maxRecDepth 100000 in
theorem own_good (v : Vl) (w : World) (B : Nat) (nA : Option Addr) (nc : Nat) (sA : Option Addr) (sc : Nat) (lA : Option Addr) (lc : Nat) (h1 : named v = true) (h2 : manyV v = false) (h3 : tooLongV v = false) (h4 : FormedYes v) (h5 : levelV v = true) (ht : v.tot ≤ 1100000) (hB : B ≤ w.heap.size) (h : VB w B v nA nc sA sc lA lc) :
    Calls Try.prog 82 #[.agg #[.int .i64 v.t, .slice nA v.n.length nc, .slice sA v.s.length sc, .slice lA v.l.length lc]] w fun e w' => e = .returned (.int .i64 0) ∧ w.grownBy w' none := by
  obtain ⟨l1, l2, l3, l4⟩ := Vl.lens v ht
  obtain ⟨wa, hwa⟩ : ∃ wa, wa = w.alloc (.cells #[.int .i64 v.t, .slice nA v.n.length nc, .slice sA v.s.length sc, .slice lA v.l.length lc] 26) := ⟨_, rfl⟩
  have hg : w.grownBy wa none := by rw [hwa]; exact gb_alloc (gb_refl w none) _
  have hc := C4.box w (.int .i64 v.t) (.slice nA v.n.length nc) (.slice sA v.s.length sc) (.slice lA v.l.length lc) 26
  rw [← hwa] at hc
  have b0 : wa.cell? ⟨w.heap.size, 0, none⟩ = some (.int .i64 v.t) := hc.c0
  have b1 : wa.cell? ⟨w.heap.size, 1, none⟩ = some (.slice nA v.n.length nc) := hc.c1
  have b2 : wa.cell? ⟨w.heap.size, 2, none⟩ = some (.slice sA v.s.length sc) := hc.c2
  have b3 : wa.cell? ⟨w.heap.size, 3, none⟩ = some (.slice lA v.l.length lc) := hc.c3
  have hbw := Nat.le_trans hB hg.size
  have HV := hide (h.gb hg hB)
  have HBW := hide hbw
  have HG := hide hg
  have HWE := hide hwa
  have FIN := hide (show w.grownBy (w.alloc (.cells #[.int .i64 v.t, .slice nA v.n.length nc, .slice sA v.s.length sc, .slice lA v.l.length lc] 26)) none from gb_alloc (gb_refl w none) _)
  have H1 := hide (fun w2 => named_any v nA nc sA sc lA lc w2 ht)
  have H2 := hide (fun w2 (k : wa.grownBy w2 none) => many_any v w2 B nA nc sA sc lA lc ht (Nat.le_trans hbw k.size) ((h.gb hg hB).gb k hbw))
  have H3 := hide (fun w2 (k : wa.grownBy w2 none) => tooLong_any v w2 B nA nc sA sc lA lc ht (Nat.le_trans hbw k.size) ((h.gb hg hB).gb k hbw))
  have H4 := hide (fun w2 (k : wa.grownBy w2 none) => h4 w2 B nA nc sA sc lA lc (Nat.le_trans hbw k.size) ((h.gb hg hB).gb k hbw))
  have H5 := hide (fun w2 (k : wa.grownBy w2 none) => level_any v w2 B nA nc sA sc lA lc ht (Nat.le_trans hbw k.size) ((h.gb hg hB).gb k hbw))
  rw [h1] at H1
  rw [h2] at H2
  rw [h3] at H3
  rw [h5] at H5
  clear ht hB h hg hwa hc hbw h1 h2 h3 h4 h5
  go_enter Try.func82, Try.ntmps82
  go_wp2_with (first
    | (go_at_call 90; rw [← HWE.out]; refine (H1.out wa).mono ?_; rintro e w1 ⟨rfl, hg1⟩; have b0 := cell_gb b0 hg1; have b1 := cell_gb b1 hg1; have b2 := cell_gb b2 hg1; have b3 := cell_gb b3 hg1; have HG1 := hide hg1; clear hg1)
    | (go_at_call 91; refine (H2.out w1 HG1.out).mono ?_; rintro e w2 ⟨rfl, hg2⟩; have b0 := cell_gb b0 hg2; have b1 := cell_gb b1 hg2; have b2 := cell_gb b2 hg2; have b3 := cell_gb b3 hg2; have HG2 := hide (gb_trans HG1.out hg2 (.inl rfl)); clear hg2)
    | (go_at_call 92; refine (H3.out w2 HG2.out).mono ?_; rintro e w3 ⟨rfl, hg3⟩; have b0 := cell_gb b0 hg3; have b1 := cell_gb b1 hg3; have b2 := cell_gb b2 hg3; have b3 := cell_gb b3 hg3; have HG3 := hide (gb_trans HG2.out hg3 (.inl rfl)); clear hg3)
    | (go_at_call 93; refine (H4.out w3 HG3.out).mono ?_; rintro e w4 ⟨rfl, hg4⟩; have b0 := cell_gb b0 hg4; have b1 := cell_gb b1 hg4; have b2 := cell_gb b2 hg4; have b3 := cell_gb b3 hg4; have HG4 := hide (gb_trans HG3.out hg4 (.inl rfl)); clear hg4)
    | (go_at_call 94; refine (H5.out w4 HG4.out).mono ?_; rintro e w5 ⟨rfl, hg5⟩; have HG5 := hide (gb_trans HG4.out hg5 (.inl rfl)); clear hg5))
  go_ret
  exact ⟨rfl, gb_trans HG.out HG5.out (.inl rfl)⟩
end Go.Proofs.Ytfckmkpfhchggaa

/- Check says yes. -/
namespace Go.Proofs.Ytfckmkpfhchggaa
open Go.RowKit
attribute [local go_sem ↓] Go.wp_at_zero Go.wp_at_succ

/-- A value in which nothing is wrong, d deep at most. -/
def GoodV : Nat → Vl → Prop
  | 0, _ => False
  | d + 1, v => named v = true ∧ manyV v = false ∧ tooLongV v = false ∧ FormedYes v ∧ levelV v = true ∧ ∀ x ∈ v.l, GoodV d x

set_option maxHeartbeats 8000000 in
set_option maxRecDepth 100000 in
theorem fault_good (d : Nat) : ∀ (v : Vl) (w : World) (B : Nat) (nA : Option Addr) (nc : Nat) (sA : Option Addr) (sc : Nat) (lA : Option Addr) (lc : Nat), GoodV d v → v.tot ≤ 1100000 → B ≤ w.heap.size → VB w B v nA nc sA sc lA lc →
    Calls Try.prog 68 #[.agg #[.int .i64 v.t, .slice nA v.n.length nc, .slice sA v.s.length sc, .slice lA v.l.length lc]] w fun e w' => e = .returned (.int .i64 0) ∧ w.grownBy w' none := by
  induction d with
  | zero => intro v _ _ _ _ _ _ _ _ hgd; cases hgd
  | succ d ih =>
    intro v w B nA nc sA sc lA lc hgd ht hB h
    obtain ⟨g1, g2, g3, g4, g5, g6⟩ := hgd
    obtain ⟨l1, l2, l3, l4⟩ := Vl.lens v ht
    obtain ⟨wa, hwa⟩ : ∃ wa, wa = w.alloc (.cells #[.int .i64 v.t, .slice nA v.n.length nc, .slice sA v.s.length sc, .slice lA v.l.length lc] 26) := ⟨_, rfl⟩
    have hg : w.grownBy wa none := by rw [hwa]; exact gb_alloc (gb_refl w none) _
    have hc := C4.box w (.int .i64 v.t) (.slice nA v.n.length nc) (.slice sA v.s.length sc) (.slice lA v.l.length lc) 26
    rw [← hwa] at hc
    have b0 : wa.cell? ⟨w.heap.size, 0, none⟩ = some (.int .i64 v.t) := hc.c0
    have b1 : wa.cell? ⟨w.heap.size, 1, none⟩ = some (.slice nA v.n.length nc) := hc.c1
    have b2 : wa.cell? ⟨w.heap.size, 2, none⟩ = some (.slice sA v.s.length sc) := hc.c2
    have b3 : wa.cell? ⟨w.heap.size, 3, none⟩ = some (.slice lA v.l.length lc) := hc.c3
    have hbw := Nat.le_trans hB hg.size
    have HV := hide (h.gb hg hB)
    have HBW := hide hbw
    have HG := hide hg
    have HWE := hide hwa
    have FIN := hide (show w.grownBy (w.alloc (.cells #[.int .i64 v.t, .slice nA v.n.length nc, .slice sA v.s.length sc, .slice lA v.l.length lc] 26)) none from gb_alloc (gb_refl w none) _)
    have HOWN := hide (own_good v wa B nA nc sA sc lA lc g1 g2 g3 g4 g5 ht hbw (h.gb hg hB))
    have IH := hide ih
    have HSUB := hide g6
    have HTT := hide ht
    clear ih ht hB h hg hwa hc hbw g1 g2 g3 g4 g5 g6
    go_enter Try.func68, Try.ntmps68
    go_wp2_with fail
    rw [← HWE.out]
    refine HOWN.out.mono ?_
    rintro e w1 ⟨rfl, hg1⟩
    have b3 := cell_gb b3 hg1
    have HG1 := hide hg1
    clear hg1
    go_wp2_with fail
    go_loopw [15] (fun i wr => ∃ j : Nat, i = .int .i64 (j : Int) ∧ j ≤ v.l.length ∧ wa.grownBy wr none) (fun i _ => v.l.length - (intOf i).toNat)
    case atStart => exact ⟨0, rfl, Nat.zero_le _, HG1.out⟩
    case round =>
      obtain ⟨j, rfl, hj, hgr⟩ := hrel
      by_cases hlt : j < v.l.length
      · have hlt1 : (j : Int) < (v.l.length : Int) := by omega
        obtain ⟨q, o, xA, xc, yA, yc, zA, zc, rfl, hqB, hc4, hvb⟩ := HV.out.l.at_ hlt
        obtain ⟨d0, d1, d2, d3⟩ := hc4.gb hgr
        have hga : wr.grownBy (wr.alloc (.cells #[.int .i64 v.l[j].t, .slice xA v.l[j].n.length xc, .slice yA v.l[j].s.length yc, .slice zA v.l[j].l.length zc] 26)) none := gb_alloc (gb_refl wr none) _
        have hgw := gb_trans hgr hga (.inl rfl)
        have HREC := hide (IH.out v.l[j] _ B xA xc yA yc zA zc (HSUB.out _ (List.getElem_mem hlt)) (Vl.tot_part HTT.out (List.getElem_mem hlt)) (Nat.le_trans HBW.out hgw.size) (hvb.gb hgw HBW.out))
        have HGW := hide hgw
        clear hc4 hvb hgr hga hgw
        go_wp2_with (go_at_call 68; refine HREC.out.mono ?_; rintro e w2 ⟨rfl, hg2⟩; have HG2 := hide hg2; clear hg2)
        go_roundw
        case rel => exact ⟨j + 1, by go_num, by omega, gb_trans HGW.out HG2.out (.inl rfl)⟩
        case measure => simp [intOf]; omega
      · have hlt1 : ¬ (j : Int) < (v.l.length : Int) := by omega
        have HGR := hide hgr
        clear hgr
        go_wp2_with fail
        go_ret
        exact ⟨rfl, gb_trans HG.out HGR.out (.inl rfl)⟩
set_option maxHeartbeats 8000000 in
set_option maxRecDepth 100000 in
theorem check_good (d : Nat) (v : Vl) (w : World) (B : Nat) (nA : Option Addr) (nc : Nat) (sA : Option Addr) (sc : Nat) (lA : Option Addr) (lc : Nat) (hgd : GoodV d v) (hd : v.depth ≤ 32) (ht : v.tot ≤ 1100000) (hB : B ≤ w.heap.size) (h : VB w B v nA nc sA sc lA lc) :
    Calls Try.prog 33 #[.agg #[.int .i64 v.t, .slice nA v.n.length nc, .slice sA v.s.length sc, .slice lA v.l.length lc]] w fun e w' => e = .returned (.int .i64 0) ∧ w.grownBy w' none := by
  obtain ⟨l1, l2, l3, l4⟩ := Vl.lens v ht
  obtain ⟨wa, hwa⟩ : ∃ wa, wa = w.alloc (.cells #[.int .i64 v.t, .slice nA v.n.length nc, .slice sA v.s.length sc, .slice lA v.l.length lc] 26) := ⟨_, rfl⟩
  have hg : w.grownBy wa none := by rw [hwa]; exact gb_alloc (gb_refl w none) _
  have hc := C4.box w (.int .i64 v.t) (.slice nA v.n.length nc) (.slice sA v.s.length sc) (.slice lA v.l.length lc) 26
  rw [← hwa] at hc
  have b0 : wa.cell? ⟨w.heap.size, 0, none⟩ = some (.int .i64 v.t) := hc.c0
  have b1 : wa.cell? ⟨w.heap.size, 1, none⟩ = some (.slice nA v.n.length nc) := hc.c1
  have b2 : wa.cell? ⟨w.heap.size, 2, none⟩ = some (.slice sA v.s.length sc) := hc.c2
  have b3 : wa.cell? ⟨w.heap.size, 3, none⟩ = some (.slice lA v.l.length lc) := hc.c3
  have hbw := Nat.le_trans hB hg.size
  have HV := hide (h.gb hg hB)
  have HBW := hide hbw
  have HG := hide hg
  have HWE := hide hwa
  have FIN := hide (show w.grownBy (w.alloc (.cells #[.int .i64 v.t, .slice nA v.n.length nc, .slice sA v.s.length sc, .slice lA v.l.length lc] 26)) none from gb_alloc (gb_refl w none) _)
  have HF := hide (fault_good d v wa B nA nc sA sc lA lc hgd ht hbw (h.gb hg hB))
  have HDP := hide (fun w2 (k : wa.grownBy w2 none) => depth_any v w2 B nA nc sA sc lA lc ht (Nat.le_trans hbw k.size) ((h.gb hg hB).gb k hbw))
  have hd1 : ¬ (32 : Int) < (v.depth : Nat) := by omega
  clear ht hB h hg hwa hc hbw hgd hd
  generalize v.depth = k at *
  go_enter Try.func33, Try.ntmps33
  go_wp2_with (first
    | (go_at_call 68; rw [← HWE.out]; refine HF.out.mono ?_; rintro e w1 ⟨rfl, hg1⟩; have b0 := cell_gb b0 hg1; have b1 := cell_gb b1 hg1; have b2 := cell_gb b2 hg1; have b3 := cell_gb b3 hg1; have HG1 := hide hg1; clear hg1)
    | (go_at_call 23; refine (HDP.out w1 HG1.out).mono ?_; rintro e w2 ⟨rfl, hg2⟩; have HG2 := hide (gb_trans HG1.out hg2 (.inl rfl)); clear hg2))
  go_ret
  exact ⟨rfl, gb_trans HG.out HG2.out (.inl rfl)⟩

/-! ## ranks, and what is ahead of another rank -/

def rankT (t : Int) : Int := if t = 101 then 0 else if t = 1 ∨ t = -1 then 1 else if t = 2 ∨ t = -2 then 2 else if t = 4 ∨ t = -4 then 3 else if t = 5 ∨ t = -5 then 4 else if t = 3 ∨ t = -3 then 5 else if t = 0 then 6 else if t = 99 then 7 else if t = 98 then 8 else 9
set_option maxHeartbeats 4000000 in
theorem rank2_any (w : World) : Calls Try.prog 59 #[.int .i64 2] w fun e w' => e = .returned (.int .i64 2) ∧ w = w' := by
  go_enter Try.func59, Try.ntmps59
  go_wp2_with fail
  go_ret
  exact ⟨rfl, rfl⟩
set_option maxHeartbeats 4000000 in
theorem rank98_any (w : World) : Calls Try.prog 59 #[.int .i64 98] w fun e w' => e = .returned (.int .i64 8) ∧ w = w' := by
  go_enter Try.func59, Try.ntmps59
  go_wp2_with fail
  go_ret
  exact ⟨rfl, rfl⟩
def cmpI (a b : Int) : Int := if a < b then -1 else if b < a then 1 else 0
set_option maxHeartbeats 4000000 in
theorem nan_any (a : Int) (w : World) : Calls Try.prog 79 #[.int .i64 a] w fun e w' => e = .returned (.bool false) ∧ w = w' := by
  have e1 : (a != a) = false := int_bne_t rfl
  go_enter Try.func79, Try.ntmps79
  go_wp2_with fail
  go_ret
  exact ⟨by simp, rfl⟩
set_option maxHeartbeats 4000000 in
theorem cmpI_any (a b : Int) (w : World) : Calls Try.prog 58 #[.int .i64 a, .int .i64 b] w fun e w' => e = .returned (.int .i64 (cmpI a b)) ∧ w = w' := by
  have HN := hide (fun x w => nan_any x w)
  by_cases h1 : a < b
  · have HC := hide (show cmpI a b = -1 by unfold cmpI; rw [if_pos h1])
    rw [HC.out]
    go_enter Try.func58, Try.ntmps58
    go_wp2_with (go_at_call 79; refine (HN.out _ _).mono ?_; rintro e w1 ⟨rfl, rfl⟩)
    go_ret
    exact ⟨rfl, rfl⟩
  · by_cases h2 : b < a
    · have HC := hide (show cmpI a b = 1 by unfold cmpI; rw [if_neg h1, if_pos h2])
      rw [HC.out]
      have h1' : b ≤ a := by omega
      go_enter Try.func58, Try.ntmps58
      go_wp2_with (go_at_call 79; refine (HN.out _ _).mono ?_; rintro e w1 ⟨rfl, rfl⟩)
      go_ret
      exact ⟨rfl, rfl⟩
    · have HC := hide (show cmpI a b = 0 by unfold cmpI; rw [if_neg h1, if_neg h2])
      rw [HC.out]
      have h1' : b ≤ a := by omega
      have h2' : a ≤ b := by omega
      go_enter Try.func58, Try.ntmps58
      go_wp2_with (go_at_call 79; refine (HN.out _ _).mono ?_; rintro e w1 ⟨rfl, rfl⟩)
      go_ret
      exact ⟨rfl, rfl⟩
end Go.Proofs.Ytfckmkpfhchggaa
