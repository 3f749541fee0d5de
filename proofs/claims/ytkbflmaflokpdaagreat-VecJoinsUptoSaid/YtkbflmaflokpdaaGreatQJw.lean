/-
  The law VecJoins, walked.
-/
import Derived.Test.YtkbflmaflokpdaaGreatQQb
import Derived.Test.YtkbflmaflokpdaaGreatQQk
import Derived.Test.YtkbflmaflokpdaaGreatQJv
import Derived.Test.YtkbflmaflokpdaaGreatQJn
import Derived.Test.YtkbflmaflokpdaaGreatQJj
import Derived.Test.YtkbflmaflokpdaaGreatQJa

namespace Go.Proofs.YtkbflmaflokpdaaGreat
open Go.RowKit

theorem own_of {v : Vl} (h : checkV v = 0) : ownV v = 0 := by
  have hf : faultsV v = 0 := by
    unfold checkV at h
    by_cases h0 : faultsV v = 0
    · exact h0
    · rw [if_neg h0] at h; exact h
  exact own_zero (d := 1048576) hf
theorem type_low {v : Vl} (h : checkV v = 0) : -1000 ≤ v.t := by
  have hf := (own_parts (own_of h)).1
  unfold fieldsOk at hf
  simp only [Bool.and_eq_true] at hf
  have h1 := hf.1.1.1
  by_cases hl : v.t < -5
  · have hr : rAbs v.t = v.t := by unfold rAbs; rw [if_neg (by omega)]
    unfold fieldsT at h1
    rw [hr, if_neg (by omega), if_neg (by omega), if_neg (by omega), if_neg (by omega), if_neg (by omega), decide_eq_true_eq] at h1
    omega
  · omega
theorem kd_of {x : Vl} (h : checkV x = 0) : kdV x = if rFlat x.t = true then rkd x.t else 0 := by
  by_cases ha : rAtom x.t = true
  · rcases atomOk_of (own_of h) (by rw [atom_same]; exact ha) with ⟨_, s, hx⟩ | ⟨hn, n, hx⟩
    · rw [hx]
      show kindO (-3) 1 0 = if rFlat (-3) = true then rkd (-3) else 0
      decide
    · have h1 : x.n.length = 1 := by rw [congrArg Vl.n hx]; rfl
      have h2 : x.s.length = 0 := by rw [congrArg Vl.s hx]; rfl
      unfold kdV
      rw [h1, h2]
      rcases hn with e | e | e | e
      · rw [show x.t = -1 by omega]; decide
      · rw [show x.t = -2 by omega]; decide
      · rw [show x.t = -4 by omega]; decide
      · rw [show x.t = -5 by omega]; decide
  · by_cases hv : rVec x.t = true
    · have ht : x.t = 1 ∨ x.t = 2 ∨ x.t = 3 ∨ x.t = 4 ∨ x.t = 5 := by
        unfold rVec at hv
        simp only [Bool.and_eq_true, decide_eq_true_eq] at hv
        omega
      unfold kdV
      rcases ht with e | e | e | e | e <;> rw [e] <;> simp [kindO, hasN, rFlat, rAtom, rVec, rkd] <;> decide
    · have hfl : rFlat x.t = false := by unfold rFlat; simp only [Bool.or_eq_false_iff]; exact ⟨Bool.eq_false_iff.2 ha, Bool.eq_false_iff.2 hv⟩
      rw [hfl, if_neg (by simp)]
      have h1 : ¬ (-5 ≤ x.t ∧ x.t < 0) := fun e => ha (by unfold rAtom; simp [e.1, e.2])
      have h2 : ¬ (1 ≤ x.t ∧ x.t ≤ 5) := fun e => hv (by unfold rVec; simp [e.1, e.2])
      unfold kdV kindO
      rw [if_neg (by omega), if_neg]
      rintro ⟨h3, _⟩
      unfold hasN at h3
      simp only [Bool.or_eq_true, beq_iff_eq] at h3
      omega
theorem rkd_ne {t : Int} (h : rFlat t = true) : rkd t ≠ 0 := by
  unfold rFlat rAtom rVec at h
  simp only [Bool.or_eq_true, Bool.and_eq_true, decide_eq_true_eq] at h
  unfold rkd
  split <;> omega
theorem alike_eq {l : List Vl} (h : ∀ x ∈ l, checkV x = 0) : alkQ l (headK l) l.length = oneK l := by
  cases l with
  | nil => rfl
  | cons a r =>
    have ha := kd_of (h a (by simp))
    unfold alkQ oneK
    rw [List.take_length, Bool.eq_iff_iff]
    simp only [List.length_cons, Nat.zero_lt_succ, decide_true, Bool.true_and, List.all_eq_true, Bool.and_eq_true, beq_iff_eq, bne_iff_ne, ne_eq, Bool.not_eq_true', headK]
    constructor
    · intro hal
      have h0 := hal a (by simp)
      rw [if_pos h0.1] at ha
      refine ⟨by rw [ha]; exact rkd_ne h0.1, List.any_eq_false.2 fun x hx => ?_⟩
      have h1 := hal x hx
      have hk := kd_of (h x hx)
      rw [if_pos h1.1] at hk
      simp [hk, ha, h1.2]
    · rintro ⟨h0, hal⟩ x hx
      have hfa : rFlat a.t = true := by
        by_cases hf : rFlat a.t = true
        · exact hf
        · rw [if_neg hf] at ha; exact absurd ha h0
      rw [if_pos hfa] at ha
      have hk := kd_of (h x hx)
      have h1 := List.any_eq_false.1 hal x hx
      have h2 : kdV x = kdV a := by simpa using h1
      by_cases hf : rFlat x.t = true
      · rw [if_pos hf] at hk
        exact ⟨hf, by rw [← hk, h2, ha]⟩
      · rw [if_neg hf] at hk
        rw [hk] at h2
        exact absurd h2.symm h0
theorem chars_snoc (l : List ByteArray) (s : ByteArray) : Vl.chars (l ++ [s]) = Vl.chars l + s.size := by simp [Vl.chars]
theorem elS_tots {v : Vl} (h : seqT v.t) : Vl.tots (elS v v.count) ≤ 3 * v.tot := by
  have htd := Vl.tot_def v
  rcases h with h | h | h
  · rw [count_num h]
    suffices ∀ k, k ≤ v.n.length → Vl.tots (elS v k) = 2 * k by
      have := this v.n.length (Nat.le_refl _); omega
    intro k
    induction k with
    | zero => intro _; rfl
    | succ k ih =>
      intro hk
      rw [elS_succ, Vl.tots_append, ih (by omega), elem_num h]
      simp only [Vl.tots, Vl.tot_def, Vl.n, Vl.s, Vl.l, Vl.chars, List.length_cons, List.length_nil, List.map_nil, List.sum_nil]
      omega
  · rw [count_sym h]
    suffices ∀ k, k ≤ v.s.length → Vl.tots (elS v k) = 2 * k + Vl.chars (v.s.take k) by
      have := this v.s.length (Nat.le_refl _); rw [List.take_length] at this; omega
    intro k
    induction k with
    | zero => intro _; rfl
    | succ k ih =>
      intro hk
      rw [elS_succ, Vl.tots_append, ih (by omega), elem_sym h, getD_at (by omega), List.take_succ_eq_append_getElem (by omega), chars_snoc]
      simp only [Vl.tots, Vl.tot_def, Vl.n, Vl.s, Vl.l, Vl.chars, List.length_cons, List.length_nil, List.map_nil, List.map_cons, List.sum_nil, List.sum_cons]
      omega
  · have e : elS v v.count = v.l := by
      rw [count_lst h]
      apply List.ext_getElem
      · rw [elS_len]
      · intro i h1 h2
        have e2 : (elS v v.l.length)[i] = elemV v i := by simp [elS]
        rw [e2, elem_lst h, getD_at h2]
    rw [e]
    omega
theorem elX_tots (v : Vl) : Vl.tots (elX v) ≤ 3 * v.tot := by
  unfold elX
  split
  · rename_i h
    exact elS_tots (kd_seq h)
  · simp only [Vl.tots]; omega
theorem flX_tots (l : List Vl) : Vl.tots (flX l) ≤ 3 * Vl.tots l := by
  induction l with
  | nil => exact Nat.zero_le _
  | cons a r ih =>
    have h1 := elX_tots a
    unfold flX at ih ⊢
    rw [List.flatMap_cons, Vl.tots_append]
    simp only [Vl.tots]
    omega
/-- Both Joins answer the same. -/
theorem joins_calls (l : List Vl) (hck : ∀ x ∈ l, checkV x = 0) (ht : Vl.tots l ≤ 1048576) : ∃ (y : Vl) (k : Int), y.tot ≤ 1200000000 ∧
    (∀ (w : World) (B : Nat) (A : Option Addr) (c : Nat), B ≤ w.heap.size → RdV w B A l → Calls Tryz.prog 19 #[.slice A l.length c] w (AtN y k w)) ∧
    (∀ (w : World) (B : Nat) (A : Option Addr) (c : Nat), B ≤ w.heap.size → RdV w B A l → Calls Tryz.prog 20 #[.slice A l.length c] w (AtN y k w)) := by
  have ht1 : Vl.tots l ≤ 1200000000 := by omega
  have ht5 : Vl.tots l ≤ 500000000 := by omega
  have hty : ∀ x ∈ l, -1000 ≤ x.t := fun x hx => type_low (hck x hx)
  have hal := alike_eq hck
  have hft := flX_tots l
  have hvt := ofV_tot (flX l)
  have rJ := fun (y : Vl) (k : Int) r1 r2 r3 r4 r5 (w : World) (B : Nat) (A : Option Addr) (c : Nat) (hB : B ≤ w.heap.size) (h : RdV w B A l) => rJoin_any l w B A c hty y k r1 r2 r3 r4 r5 ht5 (by omega) (by omega) ht1 hB h
  by_cases hw : 65536 < widS l
  · exact ⟨emp, 6, by decide, fun w B A c hB h => (join_many l w B A c hw ht1 hB h).mono fun e w' h => atN_err h, fun w B A c hB h => rJ emp 6 (fun _ => ⟨rfl, rfl⟩) (fun h => absurd hw h) (fun h => absurd hw h) (fun h => absurd hw h) (fun h => absurd hw h) w B A c hB h⟩
  have hw' : widS l ≤ 65536 := by omega
  cases hnil : l.any vNl
  · cases hone : oneK l
    · rw [hone] at hal
      by_cases hd : 32 < (ofV (flX l)).depth
      · exact ⟨emp, 6, by decide, fun w B A c hB h => (join_deep l w B A c hone hnil hw' ht1 (by omega) (by omega) hd hB h).mono fun e w' h => atN_err h, fun w B A c hB h => rJ emp 6 (fun h => absurd h hw) (fun _ h => by rw [hnil] at h; cases h) (fun _ _ h => by rw [hal] at h; cases h) (fun _ _ _ h => absurd hd h) (fun _ _ _ _ => ⟨rfl, rfl⟩) w B A c hB h⟩
      · exact ⟨ofV (flX l), 0, by omega, fun w B A c hB h => (join_list2 l w B A c hone hnil hw' ht1 (by omega) (by omega) (by omega) hB h).mono fun e w' h => atN_tup h, fun w B A c hB h => rJ (ofV (flX l)) 0 (fun h => absurd h hw) (fun _ h => by rw [hnil] at h; cases h) (fun _ _ h => by rw [hal] at h; cases h) (fun _ _ _ _ => ⟨rfl, rfl⟩) (fun _ _ _ h => absurd h hd) w B A c hB h⟩
    · rw [hone] at hal
      have hl0 : 0 < l.length := by
        cases l with
        | nil => cases hone
        | cons a r => simp
      have hK : headK l = kdV l[0] := by
        have h1 := kd_of (hck l[0] (List.getElem_mem hl0))
        have h2 : rFlat l[0].t = true := by
          unfold alkQ at hal
          rw [List.take_length, Bool.and_eq_true, List.all_eq_true] at hal
          have h3 := hal.2 l[0] (List.getElem_mem hl0)
          rw [Bool.and_eq_true] at h3
          exact h3.1
        rw [if_pos h2] at h1
        rw [h1, headK_at hl0]
      refine ⟨.mk (kdV l[0]) (l.flatMap Vl.n) (l.flatMap Vl.s) [], 0, ?_, fun w B A c hB h => (join_kind l (kdV l[0]) _ _ (hide rfl) (hide rfl) w B A c hl0 rfl hone hnil hw' ht1 hB h).mono fun e w' h => atN_tup h, fun w B A c hB h => rJ _ 0 (fun h => absurd h hw) (fun _ h => by rw [hnil] at h; cases h) (fun _ _ _ => ⟨by rw [hK], rfl⟩) (fun _ _ h => by rw [hal] at h; cases h) (fun _ _ h => by rw [hal] at h; cases h) w B A c hB h⟩
      have := flatNS l
      rw [Vl.tot_def]
      simp only [Vl.n, Vl.s, Vl.l, Vl.tots]
      omega
  · exact ⟨emp, 31, by decide, fun w B A c hB h => (join_nil l w B A c hnil hw' ht1 hB h).mono fun e w' h => atN_err h, fun w B A c hB h => rJ emp 31 (fun h => absurd h hw) (fun _ _ => ⟨rfl, rfl⟩) (fun _ h => by rw [hnil] at h; cases h) (fun _ h => by rw [hnil] at h; cases h) (fun _ h => by rw [hnil] at h; cases h) w B A c hB h⟩
end Go.Proofs.YtkbflmaflokpdaaGreat

namespace Go.Proofs.YtkbflmaflokpdaaGreat
open Go.RowKit
attribute [local go_sem ↓] Go.wp_at_zero Go.wp_at_succ

set_option maxHeartbeats 8000000 in
set_option maxRecDepth 100000 in
theorem joins_any (l : List Vl) (w : World) (A : Option Addr) (c : Nat) (ht : Vl.tots l ≤ 1048576) (h : RdV w w.heap.size A l) :
    Calls Tryz.prog 4 #[.slice A l.length c] w fun e w' => e = .returned (.bool true) ∧ w.grownBy w' none := by
  by_cases h50 : 50 < l.length
  · have h501 : (50 : Int) < (l.length : Int) := by omega
    clear h
    go_enter Tryz.func4, Tryz.ntmps4
    go_wp2_with (go_at_call 6; refine (live7_any _).mono ?_; rintro e w1 ⟨rfl, hg1⟩; have HG1 := hide hg1; clear hg1)
    go_ret
    exact ⟨rfl, HG1.out⟩
  have h501 : ¬ (50 : Int) < (l.length : Int) := by omega
  have HR := hide (right7_any l w w.heap.size A c (by omega) (Nat.le_refl _) h)
  have H := hide h
  have HT := hide ht
  clear h ht h50
  go_enter Tryz.func4, Tryz.ntmps4
  go_upto_region 1 with fail
  go_wp2_with fail
  refine HR.out.mono ?_
  rintro e w1 ⟨b, rfl, hb, hg1⟩
  have HG1 := hide hg1
  clear hg1 HR
  cases b
  · clear hb
    go_wp2_with (go_at_call 6; refine (live7_any _).mono ?_; rintro e w2 ⟨rfl, hg2⟩; have HG2 := hide (gb_trans HG1.out hg2 (.inl rfl)); clear hg2)
    go_ret
    exact ⟨rfl, HG2.out⟩
  · obtain ⟨y, k, hy, hja, hjb⟩ := joins_calls l (hb rfl) HT.out
    have HA := hide (fun w2 (hg : w.grownBy w2 none) => hja w2 w.heap.size A c hg.size (H.out.gb hg (Nat.le_refl _)))
    have HB := hide (fun w2 (hg : w.grownBy w2 none) => hjb w2 w.heap.size A c hg.size (H.out.gb hg (Nat.le_refl _)))
    have HY := hide hy
    clear hb hja hjb hy
    go_wp2_with (first
      | (go_at_call 19; refine (HA.out _ HG1.out).mono ?_; rintro e w2 ⟨aA, ac, bA, bc, dA, dc, f, rfl, ho, hn, hg2⟩; have HO2 := hide ho; have HGA2 := hide (gb_trans (gb_trans HG1.out hg2 (.inl rfl)) (gb_alloc (gb_refl w2 none) (.cells #[.int .i64 y.t, .slice aA y.n.length ac, .slice bA y.s.length bc, .slice dA y.l.length dc] 26)) (.inl rfl)); have HV2 := hide (ho.vb.gb (gb_alloc (gb_refl w2 none) (.cells #[.int .i64 y.t, .slice aA y.n.length ac, .slice bA y.s.length bc, .slice dA y.l.length dc] 26)) (Nat.le_refl _)); have HC2 := hide (C4.box w2 (.int .i64 y.t) (.slice aA y.n.length ac) (.slice bA y.s.length bc) (.slice dA y.l.length dc) 26); clear ho hn hg2)
      | (go_at_call 20; refine (HB.out _ HGA2.out).mono ?_; rintro e w4 ⟨eA, ec, gA, gc, iA, ic, f4, rfl, ho, hn, hg4⟩
         have hg5 := gb_alloc (gb_refl w4 none) (.cells #[.int .i64 y.t, .slice eA y.n.length ec, .slice gA y.s.length gc, .slice iA y.l.length ic] 26)
         have hg6 := gb_trans hg4 hg5 (.inl rfl)
         have HGB := hide (gb_trans HGA2.out hg6 (.inl rfl))
         have HVA := hide ((HV2.out.gb hg6 (by simp)).up (show _ ≤ (w4.alloc (.cells #[.int .i64 y.t, .slice eA y.n.length ec, .slice gA y.s.length gc, .slice iA y.l.length ic] 26)).heap.size by have := hg6.size; simp at this ⊢; omega))
         have HVB := hide ((ho.vb.gb hg5 (Nat.le_refl _)).up hg5.size)
         obtain ⟨p0, p1, p2, p3⟩ := HC2.out.gb hg6
         obtain ⟨q0, q1, q2, q3⟩ := C4.box w4 (.int .i64 y.t) (.slice eA y.n.length ec) (.slice gA y.s.length gc) (.slice iA y.l.length ic) 26
         clear ho hn hg4 hg5 hg6)
      | (go_at_call 11; refine (rMatch_any y y _ _ aA ac bA bc dA dc eA ec gA gc iA ic HY.out HY.out (Nat.le_refl _) HVA.out HVB.out).mono ?_; rintro e w6 ⟨rfl, hg6⟩; have HG6 := hide (gb_trans HGB.out hg6 (.inl rfl)); have hsm := Vl.same_refl y; clear hg6 p0 p1 p2 p3 q0 q1 q2 q3)
      | (go_at_call 12; refine (num7_any _ _).mono ?_; rintro e w7 ⟨rfl, rfl⟩)
      | (go_at_call 6; refine (live7_any _).mono ?_; rintro e w8 ⟨rfl, hg8⟩; have HG8 := hide (gb_trans HG6.out hg8 (.inl rfl)); clear hg8))
    go_ret
    exact ⟨rfl, HG8.out⟩
end Go.Proofs.YtkbflmaflokpdaaGreat
