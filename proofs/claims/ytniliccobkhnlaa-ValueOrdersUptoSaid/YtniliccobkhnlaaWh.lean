/-
  The document's own many, long: as the program's tooMany, tooLong.
-/
import Derived.Test.YtniliccobkhnlaaWg
import Derived.Test.YtniliccobkhnlaaVy
namespace Go.Proofs.Ytniliccobkhnlaa
open Go.RowKit
attribute [local go_sem ↓] Go.wp_at_zero Go.wp_at_succ

theorem dec_cast (a b : Nat) : decide ((a : Int) < (b : Int)) = decide (a < b) := by rw [decide_eq_decide]; omega

set_option maxHeartbeats 8000000 in
set_option maxRecDepth 100000 in
theorem rMany_any (v : Vl) (w : World) (B : Nat) (nA : Option Addr) (nc : Nat) (sA : Option Addr) (sc : Nat) (lA : Option Addr) (lc : Nat) (ht : v.tot ≤ 1100000) (hB : B ≤ w.heap.size) (h : VB w B v nA nc sA sc lA lc) :
    Calls Try.prog 71 #[.agg #[.int .i64 v.t, .slice nA v.n.length nc, .slice sA v.s.length sc, .slice lA v.l.length lc]] w fun e w' => e = .returned (.bool (manyV v)) ∧ w.grownBy w' none := by
  obtain ⟨l1, l2, l3, l4⟩ := Vl.lens v ht
  obtain ⟨wa, hwa⟩ : ∃ wa, wa = w.alloc (.cells #[.int .i64 v.t, .slice nA v.n.length nc, .slice sA v.s.length sc, .slice lA v.l.length lc] 26) := ⟨_, rfl⟩
  have hg : w.grownBy wa none := by rw [hwa]; exact gb_alloc (gb_refl w none) _
  have hc := C4.box w (.int .i64 v.t) (.slice nA v.n.length nc) (.slice sA v.s.length sc) (.slice lA v.l.length lc) 26
  rw [← hwa] at hc
  have b0 : wa.cell? ⟨w.heap.size, 0, none⟩ = some (.int .i64 v.t) := hc.c0
  have b1 : wa.cell? ⟨w.heap.size, 1, none⟩ = some (.slice nA v.n.length nc) := hc.c1
  have b2 : wa.cell? ⟨w.heap.size, 2, none⟩ = some (.slice sA v.s.length sc) := hc.c2
  have b3 : wa.cell? ⟨w.heap.size, 3, none⟩ = some (.slice lA v.l.length lc) := hc.c3
  have hbw := Nat.le_trans hB hg.size
  have HV := hide (h.gb hg hB)
  have HBW := hide hbw
  have HG := hide hg
  have HWE := hide hwa
  have HVEC := hide (fun w2 => rVec_any v.t (.slice nA v.n.length nc) (.slice sA v.s.length sc) (.slice lA v.l.length lc) w2)
  have hm : manyV v = if v.t = 98 then decide (64 < v.s.length) || decide (64 < v.l.length) else isSeq v && decide (65536 < v.count) := rfl
  have hq : isSeq v = (v.t == 0 || (decide (0 < v.t) && (hasN v.t || hasS v.t))) := rfl
  have hcn := Vl.count_def v
  clear ht hB h hg hwa hc hbw
  by_cases h3 : v.t = 3
  · have HD : Hid (manyV v = decide ((65536 : Int) < (v.s.length : Int))) := hide (by rw [hm, hq, hcn, h3]; simp [hasN, hasS, decide_eq_decide]; omega)
    rw [HD.out]
    have e3 := int_beq_t h3
    clear h3 hm hq hcn HD
    go_enter Try.func71, Try.ntmps71
    go_wp2_with fail
    rw [← HWE.out]
    go_wp2_with fail
    go_ret
    exact ⟨rfl, HG.out⟩
  have e3 := int_beq_f h3
  by_cases hv : v.t = 1 ∨ v.t = 2 ∨ v.t = 4 ∨ v.t = 5
  · have HD : Hid (manyV v = decide ((65536 : Int) < (v.n.length : Int))) := hide (by rcases hv with h | h | h | h <;> (rw [hm, hq, hcn, h]; simp [hasN, hasS, decide_eq_decide]; omega))
    rw [HD.out]
    have hvec : rVec v.t = true := by unfold rVec; rcases hv with h | h | h | h <;> rw [h] <;> rfl
    rw [hvec] at HVEC
    clear h3 hv hvec hm hq hcn HD
    go_enter Try.func71, Try.ntmps71
    go_wp2_with (go_at_call 48; rw [← HWE.out]; refine (HVEC.out _).mono ?_; rintro e w1 ⟨rfl, hg1⟩; have b0 := cell_gb b0 hg1; have b1 := cell_gb b1 hg1; have b2 := cell_gb b2 hg1; have b3 := cell_gb b3 hg1; have HG1 := hide hg1; clear hg1)
    go_ret
    exact ⟨rfl, gb_trans HG.out HG1.out (.inl rfl)⟩
  have hvec : rVec v.t = false := by
    unfold rVec
    simp only [not_or] at hv
    by_cases ha : 1 ≤ v.t
    · by_cases hb : v.t ≤ 5
      · omega
      · simp [hb]
    · simp [ha]
  rw [hvec] at HVEC
  clear hvec
  by_cases h98 : v.t = 98
  · rw [if_pos h98] at hm
    have e98 := int_beq_t h98
    have HM := hide hm
    clear h3 hv h98 hm hq hcn
    by_cases hs : 64 < v.s.length
    · have hs1 : (64 : Int) < (v.s.length : Int) := by omega
      have HD : Hid (manyV v = true) := hide (by rw [HM.out]; simp [hs])
      rw [HD.out]
      clear hs HD HM
      go_enter Try.func71, Try.ntmps71
      go_wp2_with (go_at_call 48; rw [← HWE.out]; refine (HVEC.out _).mono ?_; rintro e w1 ⟨rfl, hg1⟩; have b0 := cell_gb b0 hg1; have b1 := cell_gb b1 hg1; have b2 := cell_gb b2 hg1; have b3 := cell_gb b3 hg1; have HG1 := hide hg1; clear hg1)
      go_ret
      exact ⟨ret_b (by simp), gb_trans HG.out HG1.out (.inl rfl)⟩
    · have hs1 : ¬ (64 : Int) < (v.s.length : Int) := by omega
      have HD : Hid (manyV v = decide ((64 : Int) < (v.l.length : Int))) := hide (by rw [HM.out]; simp [hs, decide_eq_decide]; omega)
      rw [HD.out]
      clear hs HD HM
      go_enter Try.func71, Try.ntmps71
      go_wp2_with (go_at_call 48; rw [← HWE.out]; refine (HVEC.out _).mono ?_; rintro e w1 ⟨rfl, hg1⟩; have b0 := cell_gb b0 hg1; have b1 := cell_gb b1 hg1; have b2 := cell_gb b2 hg1; have b3 := cell_gb b3 hg1; have HG1 := hide hg1; clear hg1)
      go_ret
      exact ⟨ret_b (by simp; omega), gb_trans HG.out HG1.out (.inl rfl)⟩
  rw [if_neg h98] at hm
  have e98 := int_beq_f h98
  by_cases h0 : v.t = 0
  · have HD : Hid (manyV v = decide ((65536 : Int) < (v.l.length : Int))) := hide (by rw [hm, hq, hcn, h0]; simp [decide_eq_decide]; omega)
    rw [HD.out]
    have e0 := int_beq_t h0
    clear h0 h3 hv h98 hm hq hcn HD
    go_enter Try.func71, Try.ntmps71
    go_wp2_with (go_at_call 48; rw [← HWE.out]; refine (HVEC.out _).mono ?_; rintro e w1 ⟨rfl, hg1⟩; have b0 := cell_gb b0 hg1; have b1 := cell_gb b1 hg1; have b2 := cell_gb b2 hg1; have b3 := cell_gb b3 hg1; have HG1 := hide hg1; clear hg1)
    go_ret
    exact ⟨ret_b (by simp), gb_trans HG.out HG1.out (.inl rfl)⟩
  · have HD : Hid (manyV v = false) := hide (by
      have hsq : isSeq v = false := by
        rw [hq]
        simp only [not_or] at hv
        by_cases hp : 0 < v.t
        · simp only [hasN, hasS, int_beq_f h0, int_beq_f h3, int_beq_f hv.1, int_beq_f hv.2.1, int_beq_f hv.2.2.1, int_beq_f hv.2.2.2, int_beq_f (show ¬ v.t = -1 by omega), int_beq_f (show ¬ v.t = -2 by omega), int_beq_f (show ¬ v.t = -3 by omega), int_beq_f (show ¬ v.t = -4 by omega), int_beq_f (show ¬ v.t = -5 by omega)]
          simp
        · rw [int_beq_f h0, decide_eq_false hp]; rfl
      rw [hm, hsq]; rfl)
    rw [HD.out]
    have e0 := int_beq_f h0
    clear h0 h3 hv h98 hm hq hcn HD
    go_enter Try.func71, Try.ntmps71
    go_wp2_with (go_at_call 48; rw [← HWE.out]; refine (HVEC.out _).mono ?_; rintro e w1 ⟨rfl, hg1⟩; have b0 := cell_gb b0 hg1; have b1 := cell_gb b1 hg1; have b2 := cell_gb b2 hg1; have b3 := cell_gb b3 hg1; have HG1 := hide hg1; clear hg1)
    go_ret
    exact ⟨ret_b (by simp), gb_trans HG.out HG1.out (.inl rfl)⟩

set_option maxHeartbeats 8000000 in
set_option maxRecDepth 100000 in
theorem rLong_any (v : Vl) (w : World) (B : Nat) (nA : Option Addr) (nc : Nat) (sA : Option Addr) (sc : Nat) (lA : Option Addr) (lc : Nat) (ht : v.tot ≤ 1100000) (hB : B ≤ w.heap.size) (h : VB w B v nA nc sA sc lA lc) :
    Calls Try.prog 72 #[.agg #[.int .i64 v.t, .slice nA v.n.length nc, .slice sA v.s.length sc, .slice lA v.l.length lc]] w fun e w' => e = .returned (.bool (tooLongV v)) ∧ w.grownBy w' none := by
  obtain ⟨l1, l2, l3, l4⟩ := Vl.lens v ht
  obtain ⟨wa, hwa⟩ : ∃ wa, wa = w.alloc (.cells #[.int .i64 v.t, .slice nA v.n.length nc, .slice sA v.s.length sc, .slice lA v.l.length lc] 26) := ⟨_, rfl⟩
  have hg : w.grownBy wa none := by rw [hwa]; exact gb_alloc (gb_refl w none) _
  have hc := C4.box w (.int .i64 v.t) (.slice nA v.n.length nc) (.slice sA v.s.length sc) (.slice lA v.l.length lc) 26
  rw [← hwa] at hc
  have b0 : wa.cell? ⟨w.heap.size, 0, none⟩ = some (.int .i64 v.t) := hc.c0
  have b1 : wa.cell? ⟨w.heap.size, 1, none⟩ = some (.slice nA v.n.length nc) := hc.c1
  have b2 : wa.cell? ⟨w.heap.size, 2, none⟩ = some (.slice sA v.s.length sc) := hc.c2
  have b3 : wa.cell? ⟨w.heap.size, 3, none⟩ = some (.slice lA v.l.length lc) := hc.c3
  have hbw := Nat.le_trans hB hg.size
  have HV := hide (h.gb hg hB)
  have HBW := hide hbw
  have HG := hide hg
  have HWE := hide hwa
  have HD := hide (show tooLongV v = v.s.any (longS (if v.t = 100 then 65536 else 64)) from rfl)
  clear ht hB h hg hwa hc hbw
  by_cases h100 : v.t = 100
  · rw [if_pos h100] at HD
    have e100 := int_beq_t h100
    rw [HD.out]
    clear h100 HD
    go_enter Try.func72, Try.ntmps72
    go_wp2_with fail
    rw [← HWE.out]
    go_wp2_with fail
    go_loopw [4] (fun i wr => ∃ j : Nat, i = .int .i64 (j : Int) ∧ j ≤ v.s.length ∧ Hid ((v.s.take j).any (longS 65536) = false) ∧ wa = wr) (fun i _ => v.s.length - (intOf i).toNat)
    case atStart => exact ⟨0, rfl, Nat.zero_le _, hide (by simp), rfl⟩
    case round =>
      obtain ⟨j, rfl, hj, HE, rfl⟩ := hrel
      by_cases hlt : j < v.s.length
      · have hlt1 : (j : Int) < (v.s.length : Int) := by omega
        obtain ⟨a, rfl, _, ca⟩ := HV.out.s.str hlt
        have HL := hide (show v.s.take (j + 1) = v.s.take j ++ [v.s[j]] from List.take_succ_eq_append_getElem hlt)
        have HA : Hid (longS 65536 v.s[j] = true → v.s.any (longS 65536) = true) := hide (fun h => List.any_eq_true.2 ⟨_, List.getElem_mem hlt, h⟩)
        by_cases hp : ((65536 : Nat) : Int) < (v.s[j].size : Int)
        · have HR := hide (HA.out (by unfold longS; exact decide_eq_true hp))
          have hp1 : (65536 : Int) < (v.s[j].size : Int) := hp
          clear hp HA
          go_wp2_with fail
          go_ret
          exact ⟨ret_b HR.out.symm, HG.out⟩
        · have hp1 : ¬ (65536 : Int) < (v.s[j].size : Int) := hp
          have HP := hide (show longS 65536 v.s[j] = false by unfold longS; exact decide_eq_false hp)
          clear hp
          go_wp2_with fail
          go_roundw
          case rel => exact ⟨j + 1, by go_num, by omega, hide (by rw [HL.out, List.any_append, HE.out]; simp [HP.out]), trivial⟩
          case measure => simp [intOf]; omega
      · have hlt1 : ¬ (j : Int) < (v.s.length : Int) := by omega
        have HR := hide (show v.s.any (longS 65536) = false by rw [List.take_of_length_le (by omega)] at HE; exact HE.out)
        go_wp2_with fail
        go_ret
        exact ⟨ret_b HR.out.symm, HG.out⟩
  · rw [if_neg h100] at HD
    have e100 := int_beq_f h100
    rw [HD.out]
    clear h100 HD
    go_enter Try.func72, Try.ntmps72
    go_wp2_with fail
    rw [← HWE.out]
    go_wp2_with fail
    go_loopw [4] (fun i wr => ∃ j : Nat, i = .int .i64 (j : Int) ∧ j ≤ v.s.length ∧ Hid ((v.s.take j).any (longS 64) = false) ∧ wa = wr) (fun i _ => v.s.length - (intOf i).toNat)
    case atStart => exact ⟨0, rfl, Nat.zero_le _, hide (by simp), rfl⟩
    case round =>
      obtain ⟨j, rfl, hj, HE, rfl⟩ := hrel
      by_cases hlt : j < v.s.length
      · have hlt1 : (j : Int) < (v.s.length : Int) := by omega
        obtain ⟨a, rfl, _, ca⟩ := HV.out.s.str hlt
        have HL := hide (show v.s.take (j + 1) = v.s.take j ++ [v.s[j]] from List.take_succ_eq_append_getElem hlt)
        have HA : Hid (longS 64 v.s[j] = true → v.s.any (longS 64) = true) := hide (fun h => List.any_eq_true.2 ⟨_, List.getElem_mem hlt, h⟩)
        by_cases hp : ((64 : Nat) : Int) < (v.s[j].size : Int)
        · have HR := hide (HA.out (by unfold longS; exact decide_eq_true hp))
          have hp1 : (64 : Int) < (v.s[j].size : Int) := hp
          clear hp HA
          go_wp2_with fail
          go_ret
          exact ⟨ret_b HR.out.symm, HG.out⟩
        · have hp1 : ¬ (64 : Int) < (v.s[j].size : Int) := hp
          have HP := hide (show longS 64 v.s[j] = false by unfold longS; exact decide_eq_false hp)
          clear hp
          go_wp2_with fail
          go_roundw
          case rel => exact ⟨j + 1, by go_num, by omega, hide (by rw [HL.out, List.any_append, HE.out]; simp [HP.out]), trivial⟩
          case measure => simp [intOf]; omega
      · have hlt1 : ¬ (j : Int) < (v.s.length : Int) := by omega
        have HR := hide (show v.s.any (longS 64) = false by rw [List.take_of_length_le (by omega)] at HE; exact HE.out)
        go_wp2_with fail
        go_ret
        exact ⟨ret_b HR.out.symm, HG.out⟩
end Go.Proofs.Ytniliccobkhnlaa
